/- The contract of the reference's partOf. -/
import Derived.Test.YtmfnphknoclhfaaERKnown
import Derived.Test.YtmfnphknoclhfaaEPartQ
namespace Go.Proofs.Ytmfnphknoclhfaa
open Go.RowKit

def segL (F T : Nat) (l : List Int) : List Int := (l.drop F).take (T - F)
structure StrIn (w : World) (a : Option Addr) (c : Nat) (l : List Int) (n : Nat) : Prop where
  e : l.length = n
  q : n ≤ c
  b : ∀ x ∈ l, -1 ≤ x ∧ x ≤ 300000000
  h : IntsAt w a l
theorem StrIn.grown {w w' : World} {a : Option Addr} {c n : Nat} {l : List Int} (h : StrIn w a c l n) (g : w.grownBy w' none) : StrIn w' a c l n := ⟨h.e, h.q, h.b, h.h.grown g⟩
theorem segL_len {F T n : Nat} {l : List Int} (e : l.length = n) (hT : T ≤ n) : (segL F T l).length = T - F := by
  unfold segL; rw [List.length_take, List.length_drop]; omega
theorem StrIn.cut {w : World} {a : Option Addr} {c n F T : Nat} {l : List Int} (h : StrIn w a c l n) (hF : F ≤ T) (hT : T ≤ n) : IntsAt w (if c = F then a else a.map (·.add F)) (segL F T l) := by
  have hl := segL_len (F := F) h.e hT
  have hnth : ∀ i, i < T - F → nthI (segL F T l) i = nthI l (F + i) := fun i hi => by
    rw [nthI_at (by omega), nthI_at (by have := h.e; omega)]
    simp [segL]
  have hq := h.q
  refine ⟨fun h0 => ?_, fun x hx hne => ?_, fun x hx i hi => ?_⟩
  · have hn : a = none := by
      split at h0
      · exact h0
      · cases a <;> simp_all
    have := h.h.nil hn
    rw [this]; simp [segL]
  · have hlt : 0 < (segL F T l).length := List.length_pos_iff.2 hne
    obtain ⟨b, off, rfl, _⟩ := h.h.at (by have := h.e; omega)
    split at hx
    · injection hx with hx; rw [← hx]
    · simp only [Option.map_some] at hx
      injection hx with hx; rw [← hx]; unfold Addr.add; split <;> simp_all
  · obtain ⟨b, off, rfl, hc⟩ := h.h.at (by have := h.e; omega)
    have hc1 := hc (F + i) (by have := h.e; omega)
    rw [hnth i (by omega)]
    split at hx
    · injection hx with hx; rw [← hx]
      rename_i hcf
      have : F + i < l.length := by have := h.e; omega
      have := h.e
      omega
    · simp only [Option.map_some] at hx
      injection hx with hx
      have e : x = ⟨b, off + F, none⟩ := by rw [← hx]; unfold Addr.add; split <;> simp_all
      rw [e, Nat.add_assoc]; exact hc1
theorem known_at (ao : Option Addr) (cap m : Nat) (l : List Int) (hm : l.length = m) (hl : m ≤ 1000000) (hb : ∀ x ∈ l, -1 ≤ x ∧ x ≤ 300000000) (w : World) (hs : IntsAt w ao l) :
    Calls Try.prog 159 #[.slice ao m cap] w fun e w' => e = .returned (.tuple #[.int .i64 (knS l), .int .i64 (knK l)]) ∧ w.grownBy w' none := by
  subst hm; exact known_any ao cap l hl hb w hs
theorem segL_bd {F T : Nat} {l : List Int} (h : ∀ x ∈ l, -1 ≤ x ∧ x ≤ 300000000) : ∀ x ∈ segL F T l, -1 ≤ x ∧ x ≤ 300000000 := fun x hx => h x (List.mem_of_mem_drop (List.mem_of_mem_take hx))

/-- RPOS: the memory of the reference's partOf. -/
structure RPoS (w wr : World) (arr : Array Value) (f t : Int) (x : Prt) : Prop where
  g : w.grownBy wr none
  a : wr.heap[w.heap.size]? = some (.cells arr 134 (0, 0))
  r : wr.heap[w.heap.size + 1]? = some (.cells #[.int .i64 0, .int .i64 0, .int .i64 0, .int .i64 0, .int .i64 0, .int .i64 0, .int .i64 0, .int .i64 0, .int .i64 0, .int .i64 0] 44 (0, 0))
  x : wr.heap[w.heap.size + 1 + 1]? = some (.cells (x.cells f t) 44 (0, 0))
theorem RPoS.grown {w wr wr' : World} {v : Array Value} {f t : Int} {x : Prt} (h : RPoS w wr v f t x) (g : wr.grownBy wr' none) : RPoS w wr' v f t x :=
  ⟨grown_trans h.g g, (g.block _ (Array.getElem?_eq_some_iff.1 h.a).1 (by simp)).trans h.a, (g.block _ (Array.getElem?_eq_some_iff.1 h.r).1 (by simp)).trans h.r, (g.block _ (Array.getElem?_eq_some_iff.1 h.x).1 (by simp)).trans h.x⟩
theorem RPoS.setc {w wr : World} {v : Array Value} {f t : Int} {x y : Prt} (h : RPoS w wr v f t x) (i : Nat) (u : Value) (e : (x.cells f t).setIfInBounds i u = y.cells f t) : RPoS w (wr.setCell ⟨w.heap.size + 1 + 1, i, none⟩ u) v f t y := by
  have hx := h.x
  refine ⟨?_, ?_, ?_, ?_⟩
  · have hb : w.heap.size ≤ w.heap.size + 1 + 1 := by omega
    exact ⟨h.g.os, h.g.tape, h.g.output, by have := h.g.size; simp [World.setCell]; omega, fun k hk _ => by
      rw [Below.heap_setCell _ _ _ _ (by show k ≠ w.heap.size + 1 + 1; omega)]; exact h.g.block k hk (by simp)⟩
  · rw [Below.heap_setCell _ _ _ _ (by show w.heap.size ≠ w.heap.size + 1 + 1; omega)]; exact h.a
  · rw [Below.heap_setCell _ _ _ _ (by show w.heap.size + 1 ≠ w.heap.size + 1 + 1; omega)]; exact h.r
  · rw [← e]
    simp [World.setCell, Array.getElem?_modify, hx]

set_option maxRecDepth 100000 in
set_option maxHeartbeats 3200000 in
theorem rpartOf_any (v0 : Value) (a1 a2 a3 a4 a5 : Option Addr) (c1 c2 c3 c4 c5 n : Nat) (l1 l2 l3 l4 l5 : List Int) (F T : Nat) (hF : F ≤ T) (hT : T ≤ n) (hn : n ≤ 1000000) (w : World)
    (H1 : Hid (StrIn w a1 c1 l1 n)) (H2 : Hid (StrIn w a2 c2 l2 n)) (H3 : Hid (StrIn w a3 c3 l3 n)) (H4 : Hid (StrIn w a4 c4 l4 n)) (H5 : Hid (StrIn w a5 c5 l5 n)) {X : Prt} (HXX : Hid (⟨knS (segL F T l4), knS (segL F T l5), knS (segL F T l1), knS (segL F T l2), knS (segL F T l3), knK (segL F T l1), knK (segL F T l2), knK (segL F T l3)⟩ = X)) :
    Calls Try.prog 100 #[.agg #[v0, .slice a1 n c1, .slice a2 n c2, .slice a3 n c3, .slice a4 n c4, .slice a5 n c5], .int .i64 F, .int .i64 T] w fun e w' =>
      e = .returned (.agg (X.cells F T)) ∧ w.grownBy w' none := by
  have q1 := H1.out.q; have q2 := H2.out.q; have q3 := H3.out.q; have q4 := H4.out.q; have q5 := H5.out.q
  go_enter Try.func100, Try.ntmps100
  go_upto_region 2 with (fail)
  obtain ⟨W0, hW0⟩ : ∃ W0, (((w.alloc (.cells #[v0, .slice a1 n c1, .slice a2 n c2, .slice a3 n c3, .slice a4 n c4, .slice a5 n c5] 134)).alloc (.cells #[.int .i64 0, .int .i64 0, .int .i64 0, .int .i64 0, .int .i64 0, .int .i64 0, .int .i64 0, .int .i64 0, .int .i64 0, .int .i64 0] 44)).alloc (.cells #[.int .i64 F, .int .i64 T, .int .i64 0, .int .i64 0, .int .i64 0, .int .i64 0, .int .i64 0, .int .i64 0, .int .i64 0, .int .i64 0] 44)) = W0 := ⟨_, rfl⟩
  have P0 : Hid (RPoS w W0 #[v0, .slice a1 n c1, .slice a2 n c2, .slice a3 n c3, .slice a4 n c4, .slice a5 n c5] F T ⟨0, 0, 0, 0, 0, 0, 0, 0⟩) := by
    show RPoS _ _ _ _ _ _
    rw [← hW0]
    refine ⟨grown_trans (grown_trans (World.grownBy_alloc _ _ _) (World.grownBy_alloc _ _ _)) (World.grownBy_alloc _ _ _), ?_, ?_, ?_⟩
    · rw [Below.heap_alloc _ _ _ (by simp; omega), Below.heap_alloc _ _ _ (by simp)]
      have q := heap_alloc_new w (.cells #[v0, .slice a1 n c1, .slice a2 n c2, .slice a3 n c3, .slice a4 n c4, .slice a5 n c5] 134)
      simpa using q
    · rw [Below.heap_alloc _ _ _ (by simp)]
      have q := heap_alloc_new (w.alloc (.cells #[v0, .slice a1 n c1, .slice a2 n c2, .slice a3 n c3, .slice a4 n c4, .slice a5 n c5] 134)) (.cells #[.int .i64 0, .int .i64 0, .int .i64 0, .int .i64 0, .int .i64 0, .int .i64 0, .int .i64 0, .int .i64 0, .int .i64 0, .int .i64 0] 44)
      simpa using q
    · have q := heap_alloc_new ((w.alloc (.cells #[v0, .slice a1 n c1, .slice a2 n c2, .slice a3 n c3, .slice a4 n c4, .slice a5 n c5] 134)).alloc (.cells #[.int .i64 0, .int .i64 0, .int .i64 0, .int .i64 0, .int .i64 0, .int .i64 0, .int .i64 0, .int .i64 0, .int .i64 0, .int .i64 0] 44)) (.cells #[.int .i64 F, .int .i64 T, .int .i64 0, .int .i64 0, .int .i64 0, .int .i64 0, .int .i64 0, .int .i64 0, .int .i64 0, .int .i64 0] 44)
      simpa using q
  rw [hW0]
  clear hW0
  generalize Value.agg #[v0, .slice a1 n c1, .slice a2 n c2, .slice a3 n c3, .slice a4 n c4, .slice a5 n c5] = V0
  go_cut [] (fun wx => RPoS w wx #[v0, .slice a1 n c1, .slice a2 n c2, .slice a3 n c3, .slice a4 n c4, .slice a5 n c5] F T ⟨knS (segL F T l4), 0, 0, 0, 0, 0, 0, 0⟩)
  case first =>
    have cA : W0.cell? ⟨w.heap.size, 4, none⟩ = some (.slice a4 n c4) := by have := P0.out.a; simp [World.cell?, this]
    have K4 : (c4 = F → ∀ W, W0.grownBy W none → IntsAt W a4 (segL F T l4)) ∧ (¬ c4 = F → ∀ W, W0.grownBy W none → IntsAt W (a4.map (fun x => x.add F)) (segL F T l4)) := ⟨fun hc W g => by have h := (H4.out.grown (grown_trans P0.out.g g)).cut hF hT; rwa [if_pos hc] at h, fun hc W g => by have h := (H4.out.grown (grown_trans P0.out.g g)).cut hF hT; rwa [if_neg hc] at h⟩
    go_wp2_with fail
    all_goals
      refine (known_at _ _ _ (segL F T l4) (segL_len H4.out.e hT) (by omega) (segL_bd H4.out.b) _ ?_).mono ?_
      · first | exact K4.1 (by assumption) _ (grown_refl _ _) | exact K4.1 (by assumption) _ (grown_drewN _ _ 1) | exact K4.2 (by assumption) _ (grown_refl _ _) | exact K4.2 (by assumption) _ (grown_drewN _ _ 1)
      rintro e w2 ⟨rfl, hg2⟩
      have PP := P0.out.grown (by first | exact hg2 | exact grown_trans (grown_drewN _ _ 1) hg2)
      have hx := PP.x
      have x2 : w2.cell? ⟨w.heap.size + 1 + 1, 2, none⟩ = some (.int .i64 0) := by simp [World.cell?, hx]
      have f2 : w2.frozen? ⟨w.heap.size + 1 + 1, 2, none⟩ = false := by simp [World.frozen?, hx]
      clear hx hg2 cA
      have HPP := Lib.hid PP
      clear PP
      go_wp2_with fail
      go_meet
      exact (HPP.out.setc (y := ⟨knS (segL F T l4), 0, 0, 0, 0, 0, 0, 0⟩) 2 _ rfl)
  case rest =>
  have P1 := Lib.hid hcut
  clear hcut P0
  go_upto_region 3 with (fail)
  go_cut [] (fun wx => RPoS w wx #[v0, .slice a1 n c1, .slice a2 n c2, .slice a3 n c3, .slice a4 n c4, .slice a5 n c5] F T ⟨knS (segL F T l4), knS (segL F T l5), 0, 0, 0, 0, 0, 0⟩)
  case first =>
    have cA : wc.cell? ⟨w.heap.size, 5, none⟩ = some (.slice a5 n c5) := by have := P1.out.a; simp [World.cell?, this]
    have K5 : (c5 = F → ∀ W, wc.grownBy W none → IntsAt W a5 (segL F T l5)) ∧ (¬ c5 = F → ∀ W, wc.grownBy W none → IntsAt W (a5.map (fun x => x.add F)) (segL F T l5)) := ⟨fun hc W g => by have h := (H5.out.grown (grown_trans P1.out.g g)).cut hF hT; rwa [if_pos hc] at h, fun hc W g => by have h := (H5.out.grown (grown_trans P1.out.g g)).cut hF hT; rwa [if_neg hc] at h⟩
    go_wp2_with fail
    all_goals
      refine (known_at _ _ _ (segL F T l5) (segL_len H5.out.e hT) (by omega) (segL_bd H5.out.b) _ ?_).mono ?_
      · first | exact K5.1 (by assumption) _ (grown_refl _ _) | exact K5.1 (by assumption) _ (grown_drewN _ _ 1) | exact K5.2 (by assumption) _ (grown_refl _ _) | exact K5.2 (by assumption) _ (grown_drewN _ _ 1)
      rintro e w2 ⟨rfl, hg2⟩
      have PP := P1.out.grown (by first | exact hg2 | exact grown_trans (grown_drewN _ _ 1) hg2)
      have hx := PP.x
      have x3 : w2.cell? ⟨w.heap.size + 1 + 1, 3, none⟩ = some (.int .i64 0) := by simp [World.cell?, hx]
      have f3 : w2.frozen? ⟨w.heap.size + 1 + 1, 3, none⟩ = false := by simp [World.frozen?, hx]
      clear hx hg2 cA
      have HPP := Lib.hid PP
      clear PP
      go_wp2_with fail
      go_meet
      exact (HPP.out.setc (y := ⟨knS (segL F T l4), knS (segL F T l5), 0, 0, 0, 0, 0, 0⟩) 3 _ rfl)
  case rest =>
  have P2 := Lib.hid hcut
  clear hcut P1
  go_upto_region 4 with (fail)
  go_cut [] (fun wx => RPoS w wx #[v0, .slice a1 n c1, .slice a2 n c2, .slice a3 n c3, .slice a4 n c4, .slice a5 n c5] F T ⟨knS (segL F T l4), knS (segL F T l5), knS (segL F T l1), 0, 0, knK (segL F T l1), 0, 0⟩)
  case first =>
    have cA : wc.cell? ⟨w.heap.size, 1, none⟩ = some (.slice a1 n c1) := by have := P2.out.a; simp [World.cell?, this]
    have K1 : (c1 = F → ∀ W, wc.grownBy W none → IntsAt W a1 (segL F T l1)) ∧ (¬ c1 = F → ∀ W, wc.grownBy W none → IntsAt W (a1.map (fun x => x.add F)) (segL F T l1)) := ⟨fun hc W g => by have h := (H1.out.grown (grown_trans P2.out.g g)).cut hF hT; rwa [if_pos hc] at h, fun hc W g => by have h := (H1.out.grown (grown_trans P2.out.g g)).cut hF hT; rwa [if_neg hc] at h⟩
    go_wp2_with fail
    all_goals
      refine (known_at _ _ _ (segL F T l1) (segL_len H1.out.e hT) (by omega) (segL_bd H1.out.b) _ ?_).mono ?_
      · first | exact K1.1 (by assumption) _ (grown_refl _ _) | exact K1.1 (by assumption) _ (grown_drewN _ _ 1) | exact K1.2 (by assumption) _ (grown_refl _ _) | exact K1.2 (by assumption) _ (grown_drewN _ _ 1)
      rintro e w2 ⟨rfl, hg2⟩
      have PP := P2.out.grown (by first | exact hg2 | exact grown_trans (grown_drewN _ _ 1) hg2)
      have hx := PP.x
      have x4 : w2.cell? ⟨w.heap.size + 1 + 1, 4, none⟩ = some (.int .i64 0) := by simp [World.cell?, hx]
      have f4 : w2.frozen? ⟨w.heap.size + 1 + 1, 4, none⟩ = false := by simp [World.frozen?, hx]
      have x7 : w2.cell? ⟨w.heap.size + 1 + 1, 7, none⟩ = some (.int .i64 0) := by simp [World.cell?, hx]
      have f7 : w2.frozen? ⟨w.heap.size + 1 + 1, 7, none⟩ = false := by simp [World.frozen?, hx]
      clear hx hg2 cA
      have HPP := Lib.hid PP
      clear PP
      go_wp2_with fail
      go_meet
      exact ((HPP.out.setc (y := ⟨knS (segL F T l4), knS (segL F T l5), knS (segL F T l1), 0, 0, 0, 0, 0⟩) 4 _ rfl).setc (y := ⟨knS (segL F T l4), knS (segL F T l5), knS (segL F T l1), 0, 0, knK (segL F T l1), 0, 0⟩) 7 _ rfl)
  case rest =>
  have P3 := Lib.hid hcut
  clear hcut P2
  go_upto_region 5 with (fail)
  go_cut [] (fun wx => RPoS w wx #[v0, .slice a1 n c1, .slice a2 n c2, .slice a3 n c3, .slice a4 n c4, .slice a5 n c5] F T ⟨knS (segL F T l4), knS (segL F T l5), knS (segL F T l1), knS (segL F T l2), 0, knK (segL F T l1), knK (segL F T l2), 0⟩)
  case first =>
    have cA : wc.cell? ⟨w.heap.size, 2, none⟩ = some (.slice a2 n c2) := by have := P3.out.a; simp [World.cell?, this]
    have K2 : (c2 = F → ∀ W, wc.grownBy W none → IntsAt W a2 (segL F T l2)) ∧ (¬ c2 = F → ∀ W, wc.grownBy W none → IntsAt W (a2.map (fun x => x.add F)) (segL F T l2)) := ⟨fun hc W g => by have h := (H2.out.grown (grown_trans P3.out.g g)).cut hF hT; rwa [if_pos hc] at h, fun hc W g => by have h := (H2.out.grown (grown_trans P3.out.g g)).cut hF hT; rwa [if_neg hc] at h⟩
    go_wp2_with fail
    all_goals
      refine (known_at _ _ _ (segL F T l2) (segL_len H2.out.e hT) (by omega) (segL_bd H2.out.b) _ ?_).mono ?_
      · first | exact K2.1 (by assumption) _ (grown_refl _ _) | exact K2.1 (by assumption) _ (grown_drewN _ _ 1) | exact K2.2 (by assumption) _ (grown_refl _ _) | exact K2.2 (by assumption) _ (grown_drewN _ _ 1)
      rintro e w2 ⟨rfl, hg2⟩
      have PP := P3.out.grown (by first | exact hg2 | exact grown_trans (grown_drewN _ _ 1) hg2)
      have hx := PP.x
      have x5 : w2.cell? ⟨w.heap.size + 1 + 1, 5, none⟩ = some (.int .i64 0) := by simp [World.cell?, hx]
      have f5 : w2.frozen? ⟨w.heap.size + 1 + 1, 5, none⟩ = false := by simp [World.frozen?, hx]
      have x8 : w2.cell? ⟨w.heap.size + 1 + 1, 8, none⟩ = some (.int .i64 0) := by simp [World.cell?, hx]
      have f8 : w2.frozen? ⟨w.heap.size + 1 + 1, 8, none⟩ = false := by simp [World.frozen?, hx]
      clear hx hg2 cA
      have HPP := Lib.hid PP
      clear PP
      go_wp2_with fail
      go_meet
      exact ((HPP.out.setc (y := ⟨knS (segL F T l4), knS (segL F T l5), knS (segL F T l1), knS (segL F T l2), 0, knK (segL F T l1), 0, 0⟩) 5 _ rfl).setc (y := ⟨knS (segL F T l4), knS (segL F T l5), knS (segL F T l1), knS (segL F T l2), 0, knK (segL F T l1), knK (segL F T l2), 0⟩) 8 _ rfl)
  case rest =>
  have P4 := Lib.hid hcut
  clear hcut P3
  go_upto_region 6 with (fail)
  go_cut [] (fun wx => RPoS w wx #[v0, .slice a1 n c1, .slice a2 n c2, .slice a3 n c3, .slice a4 n c4, .slice a5 n c5] F T ⟨knS (segL F T l4), knS (segL F T l5), knS (segL F T l1), knS (segL F T l2), knS (segL F T l3), knK (segL F T l1), knK (segL F T l2), knK (segL F T l3)⟩)
  case first =>
    have cA : wc.cell? ⟨w.heap.size, 3, none⟩ = some (.slice a3 n c3) := by have := P4.out.a; simp [World.cell?, this]
    have K3 : (c3 = F → ∀ W, wc.grownBy W none → IntsAt W a3 (segL F T l3)) ∧ (¬ c3 = F → ∀ W, wc.grownBy W none → IntsAt W (a3.map (fun x => x.add F)) (segL F T l3)) := ⟨fun hc W g => by have h := (H3.out.grown (grown_trans P4.out.g g)).cut hF hT; rwa [if_pos hc] at h, fun hc W g => by have h := (H3.out.grown (grown_trans P4.out.g g)).cut hF hT; rwa [if_neg hc] at h⟩
    go_wp2_with fail
    all_goals
      refine (known_at _ _ _ (segL F T l3) (segL_len H3.out.e hT) (by omega) (segL_bd H3.out.b) _ ?_).mono ?_
      · first | exact K3.1 (by assumption) _ (grown_refl _ _) | exact K3.1 (by assumption) _ (grown_drewN _ _ 1) | exact K3.2 (by assumption) _ (grown_refl _ _) | exact K3.2 (by assumption) _ (grown_drewN _ _ 1)
      rintro e w2 ⟨rfl, hg2⟩
      have PP := P4.out.grown (by first | exact hg2 | exact grown_trans (grown_drewN _ _ 1) hg2)
      have hx := PP.x
      have x6 : w2.cell? ⟨w.heap.size + 1 + 1, 6, none⟩ = some (.int .i64 0) := by simp [World.cell?, hx]
      have f6 : w2.frozen? ⟨w.heap.size + 1 + 1, 6, none⟩ = false := by simp [World.frozen?, hx]
      have x9 : w2.cell? ⟨w.heap.size + 1 + 1, 9, none⟩ = some (.int .i64 0) := by simp [World.cell?, hx]
      have f9 : w2.frozen? ⟨w.heap.size + 1 + 1, 9, none⟩ = false := by simp [World.frozen?, hx]
      clear hx hg2 cA
      have HPP := Lib.hid PP
      clear PP
      go_wp2_with fail
      go_meet
      exact ((HPP.out.setc (y := ⟨knS (segL F T l4), knS (segL F T l5), knS (segL F T l1), knS (segL F T l2), knS (segL F T l3), knK (segL F T l1), knK (segL F T l2), 0⟩) 6 _ rfl).setc (y := ⟨knS (segL F T l4), knS (segL F T l5), knS (segL F T l1), knS (segL F T l2), knS (segL F T l3), knK (segL F T l1), knK (segL F T l2), knK (segL F T l3)⟩) 9 _ rfl)
  case rest =>
  have P5 := Lib.hid hcut
  clear hcut P4
  have HX : Hid (RPoS w wc #[v0, .slice a1 n c1, .slice a2 n c2, .slice a3 n c3, .slice a4 n c4, .slice a5 n c5] F T X) := by show RPoS _ _ _ _ _ _; rw [← HXX.out]; exact P5.out
  clear HXX P5
  obtain ⟨y0, y1, y2, y3, y4, y5, y6, y7⟩ := X
  have hxx := HX.out.x
  have hrr := HX.out.r
  have x0 : wc.cell? ⟨w.heap.size + 1 + 1, 0, none⟩ = some (.int .i64 (F : Int)) := by simp [World.cell?, hxx]
  have x1 : wc.cell? ⟨w.heap.size + 1 + 1, 1, none⟩ = some (.int .i64 (T : Int)) := by simp [World.cell?, hxx]
  have x2 : wc.cell? ⟨w.heap.size + 1 + 1, 2, none⟩ = some (.int .i64 y0) := by simp [World.cell?, hxx]
  have x3 : wc.cell? ⟨w.heap.size + 1 + 1, 3, none⟩ = some (.int .i64 y1) := by simp [World.cell?, hxx]
  have x4 : wc.cell? ⟨w.heap.size + 1 + 1, 4, none⟩ = some (.int .i64 y2) := by simp [World.cell?, hxx]
  have x5 : wc.cell? ⟨w.heap.size + 1 + 1, 5, none⟩ = some (.int .i64 y3) := by simp [World.cell?, hxx]
  have x6 : wc.cell? ⟨w.heap.size + 1 + 1, 6, none⟩ = some (.int .i64 y4) := by simp [World.cell?, hxx]
  have x7 : wc.cell? ⟨w.heap.size + 1 + 1, 7, none⟩ = some (.int .i64 y5) := by simp [World.cell?, hxx]
  have x8 : wc.cell? ⟨w.heap.size + 1 + 1, 8, none⟩ = some (.int .i64 y6) := by simp [World.cell?, hxx]
  have x9 : wc.cell? ⟨w.heap.size + 1 + 1, 9, none⟩ = some (.int .i64 y7) := by simp [World.cell?, hxx]
  have r0 : wc.cell? ⟨w.heap.size + 1, 0, none⟩ = some (.int .i64 0) := by simp [World.cell?, hrr]
  have r1 : wc.cell? ⟨w.heap.size + 1, 1, none⟩ = some (.int .i64 0) := by simp [World.cell?, hrr]
  have r2 : wc.cell? ⟨w.heap.size + 1, 2, none⟩ = some (.int .i64 0) := by simp [World.cell?, hrr]
  have r3 : wc.cell? ⟨w.heap.size + 1, 3, none⟩ = some (.int .i64 0) := by simp [World.cell?, hrr]
  have r4 : wc.cell? ⟨w.heap.size + 1, 4, none⟩ = some (.int .i64 0) := by simp [World.cell?, hrr]
  have r5 : wc.cell? ⟨w.heap.size + 1, 5, none⟩ = some (.int .i64 0) := by simp [World.cell?, hrr]
  have r6 : wc.cell? ⟨w.heap.size + 1, 6, none⟩ = some (.int .i64 0) := by simp [World.cell?, hrr]
  have r7 : wc.cell? ⟨w.heap.size + 1, 7, none⟩ = some (.int .i64 0) := by simp [World.cell?, hrr]
  have r8 : wc.cell? ⟨w.heap.size + 1, 8, none⟩ = some (.int .i64 0) := by simp [World.cell?, hrr]
  have r9 : wc.cell? ⟨w.heap.size + 1, 9, none⟩ = some (.int .i64 0) := by simp [World.cell?, hrr]
  have e0 : wc.frozen? ⟨w.heap.size + 1, 0, none⟩ = false := by simp [World.frozen?, hrr]
  have e1 : wc.frozen? ⟨w.heap.size + 1, 1, none⟩ = false := by simp [World.frozen?, hrr]
  have e2 : wc.frozen? ⟨w.heap.size + 1, 2, none⟩ = false := by simp [World.frozen?, hrr]
  have e3 : wc.frozen? ⟨w.heap.size + 1, 3, none⟩ = false := by simp [World.frozen?, hrr]
  have e4 : wc.frozen? ⟨w.heap.size + 1, 4, none⟩ = false := by simp [World.frozen?, hrr]
  have e5 : wc.frozen? ⟨w.heap.size + 1, 5, none⟩ = false := by simp [World.frozen?, hrr]
  have e6 : wc.frozen? ⟨w.heap.size + 1, 6, none⟩ = false := by simp [World.frozen?, hrr]
  have e7 : wc.frozen? ⟨w.heap.size + 1, 7, none⟩ = false := by simp [World.frozen?, hrr]
  have e8 : wc.frozen? ⟨w.heap.size + 1, 8, none⟩ = false := by simp [World.frozen?, hrr]
  have e9 : wc.frozen? ⟨w.heap.size + 1, 9, none⟩ = false := by simp [World.frozen?, hrr]
  have HG := Lib.hid HX.out.g
  have HRR := Lib.hid hrr
  clear hxx hrr HX
  go_wp2_with fail
  obtain ⟨W1, hW1⟩ : ∃ W1, ((((((((((wc.setCell ⟨w.heap.size + 1, 0, none⟩ (.int .i64 (F : Int))).setCell ⟨w.heap.size + 1, 1, none⟩ (.int .i64 (T : Int))).setCell ⟨w.heap.size + 1, 2, none⟩ (.int .i64 y0)).setCell ⟨w.heap.size + 1, 3, none⟩ (.int .i64 y1)).setCell ⟨w.heap.size + 1, 4, none⟩ (.int .i64 y2)).setCell ⟨w.heap.size + 1, 5, none⟩ (.int .i64 y3)).setCell ⟨w.heap.size + 1, 6, none⟩ (.int .i64 y4)).setCell ⟨w.heap.size + 1, 7, none⟩ (.int .i64 y5)).setCell ⟨w.heap.size + 1, 8, none⟩ (.int .i64 y6)).setCell ⟨w.heap.size + 1, 9, none⟩ (.int .i64 y7)) = W1 := ⟨_, rfl⟩
  have hR1 : W1.heap[w.heap.size + 1]? = some (.cells #[.int .i64 (F : Int), .int .i64 (T : Int), .int .i64 y0, .int .i64 y1, .int .i64 y2, .int .i64 y3, .int .i64 y4, .int .i64 y5, .int .i64 y6, .int .i64 y7] 44 (0, 0)) := by
    rw [← hW1]; have := HRR.out; simp [World.setCell, Array.getElem?_modify, this]
  have hg1 : w.grownBy W1 none := by
    rw [← hW1]; exact grown_setR (grown_setR (grown_setR (grown_setR (grown_setR (grown_setR (grown_setR (grown_setR (grown_setR (grown_setR HG.out _ _) _ _) _ _) _ _) _ _) _ _) _ _) _ _) _ _) _ _
  have z0 : W1.cell? ⟨w.heap.size + 1, 0, none⟩ = some (.int .i64 (F : Int)) := by simp [World.cell?, hR1]
  have z1 : W1.cell? ⟨w.heap.size + 1, 1, none⟩ = some (.int .i64 (T : Int)) := by simp [World.cell?, hR1]
  have z2 : W1.cell? ⟨w.heap.size + 1, 2, none⟩ = some (.int .i64 y0) := by simp [World.cell?, hR1]
  have z3 : W1.cell? ⟨w.heap.size + 1, 3, none⟩ = some (.int .i64 y1) := by simp [World.cell?, hR1]
  have z4 : W1.cell? ⟨w.heap.size + 1, 4, none⟩ = some (.int .i64 y2) := by simp [World.cell?, hR1]
  have z5 : W1.cell? ⟨w.heap.size + 1, 5, none⟩ = some (.int .i64 y3) := by simp [World.cell?, hR1]
  have z6 : W1.cell? ⟨w.heap.size + 1, 6, none⟩ = some (.int .i64 y4) := by simp [World.cell?, hR1]
  have z7 : W1.cell? ⟨w.heap.size + 1, 7, none⟩ = some (.int .i64 y5) := by simp [World.cell?, hR1]
  have z8 : W1.cell? ⟨w.heap.size + 1, 8, none⟩ = some (.int .i64 y6) := by simp [World.cell?, hR1]
  have z9 : W1.cell? ⟨w.heap.size + 1, 9, none⟩ = some (.int .i64 y7) := by simp [World.cell?, hR1]
  rw [hW1]
  clear hW1
  refine bodyPost_ret (v := .agg #[.int .i64 (F : Int), .int .i64 (T : Int), .int .i64 y0, .int .i64 y1, .int .i64 y2, .int .i64 y3, .int .i64 y4, .int .i64 y5, .int .i64 y6, .int .i64 y7]) (by simp [results, Try.results100, go_sem, z0, z1, z2, z3, z4, z5, z6, z7, z8, z9]) rfl ⟨rfl, hg1⟩
end Go.Proofs.Ytmfnphknoclhfaa
