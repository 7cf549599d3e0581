/- Texts that all laws of this seat use, one behind the other. -/
import Derived.Test.YtgkhhfojioepgaaBaseC
import Derived.Test.YtgkhhfojioepgaaShelf
namespace Go.Proofs.Ytgkhhfojioepgaa
open Go.RowKit
set_option linter.unusedSimpArgs false
set_option linter.unusedVariables false

theorem equal_ints {w : World} {ao1 ao2 : Option Addr} {n c1 c2 : Nat} {F G : Nat → Int} (h1 : IntsC w ao1 n F) (h2 : IntsC w ao2 n G) (hFG : ∀ j, j < n → F j = G j) (hn : n ≤ 9223372036854775807) :
    Calls Try.prog 44 #[.slice ao1 n c1, .slice ao2 n c2] w fun e w' => e = .returned (.bool true) ∧ w.grownBy w' none := by
  rcases Nat.eq_zero_or_pos n with h0 | h0
  · subst h0
    refine (Try.slices_Equal_int_empty ao1 ao2 c1 0 c2 w (by omega)).mono ?_
    rintro e w' ⟨rfl, rfl⟩
    exact ⟨rfl, grown_refl _ _⟩
  · obtain ⟨g1, rfl, _⟩ := h1 0 h0
    obtain ⟨g2, rfl, _⟩ := h2 0 h0
    have hc1 : ∀ j, j < n → w.cell? ⟨g1, j, none⟩ = some (.int .i64 (F j)) := fun j hj => by
      obtain ⟨g, e, h⟩ := h1 j hj
      injection e with e; injection e with e1 _ _; subst e1; exact h
    have hc2 : ∀ j, j < n → w.cell? ⟨g2, j, none⟩ = some (.int .i64 (F j)) := fun j hj => by
      obtain ⟨g, e, h⟩ := h2 j hj
      injection e with e; injection e with e1 _ _; subst e1; rw [hFG j hj]; exact h
    have hlen : ((List.range n).map F).length = n := by simp
    refine (Try.slices_Equal_int g1 0 n c1 g2 0 n c2 ((List.range n).map F) ((List.range n).map F) w (by omega) (by omega) hn hn (fun j hj => ?_) (fun j hj => ?_)).mono ?_
    · rw [hlen] at hj
      rw [List.getD_eq_getElem?_getD]
      simpa [hj] using hc1 j hj
    · rw [hlen] at hj
      rw [List.getD_eq_getElem?_getD]
      simpa [hj] using hc2 j hj
    · rintro e w' ⟨rfl, q, rfl⟩
      exact ⟨by simp, grown_drewN _ _ _⟩

def hillA (g cap : Nat) : Act := ⟨⟨#[97]⟩, 1, 0, some ⟨g, 0, none⟩, cap, hillL, none, 0, [], none, 0, []⟩
theorem hill_chk (g cap : Nat) : chkE (hillA g cap) = 0 := by rfl
theorem hill_at {w : World} {base g cap : Nat} (h : w.ownsRow base 28 7 (.slice (some ⟨g, 0, none⟩) 4 cap) 4 (hillVs 4)) : ActAt w (hillA g cap) := by
  have hc : ∀ (n : Nat) (u : Value), (hillVs 4)[n]? = some u → w.cell? ⟨g, n, none⟩ = some u := fun n u hu => by
    have q := h.cells (g := g) rfl n u hu
    have e : (⟨g, 0, none⟩ : Addr).add n = ⟨g, n, none⟩ := by unfold Addr.add; split <;> simp_all
    rw [e] at q; exact q
  refine ⟨(by show (1 : Nat) ≤ 140737488355328; decide), (by show ((4 : Nat) : Int) ≤ 9223372036854775807; decide), (by show ((0 : Nat) : Int) ≤ 9223372036854775807; decide), (by show ((0 : Nat) : Int) ≤ 9223372036854775807; decide), ⟨fun h => (by cases h), fun a ha _ => (by cases ha; rfl), fun a ha i hi => ?_⟩, ⟨fun _ => rfl, fun a ha => (by cases ha), fun a ha => (by cases ha), fun i hi => absurd hi (by simp [hillA])⟩, ⟨fun _ => rfl, fun a ha => (by cases ha), fun a ha => (by cases ha), fun i hi => absurd hi (by simp [hillA])⟩⟩
  cases ha
  have h4 : i < 4 := hi
  match i, h4 with
  | 0, _ => exact ⟨hc 0 _ rfl, hc 1 _ rfl, hc 2 _ rfl, hc 3 _ rfl, hc 4 _ rfl, hc 5 _ rfl, hc 6 _ rfl⟩
  | 1, _ => exact ⟨hc 7 _ rfl, hc 8 _ rfl, hc 9 _ rfl, hc 10 _ rfl, hc 11 _ rfl, hc 12 _ rfl, hc 13 _ rfl⟩
  | 2, _ => exact ⟨hc 14 _ rfl, hc 15 _ rfl, hc 16 _ rfl, hc 17 _ rfl, hc 18 _ rfl, hc 19 _ rfl, hc 20 _ rfl⟩
  | 3, _ => exact ⟨hc 21 _ rfl, hc 22 _ rfl, hc 23 _ rfl, hc 24 _ rfl, hc 25 _ rfl, hc 26 _ rfl, hc 27 _ rfl⟩

theorem root_2500 : rootI 2500 = 50 := by
  obtain ⟨r, hr, hi⟩ := rootI_is 2500
  have h50 : IsRoot (2500 : Int).toNat 50 := by unfold IsRoot; decide
  have := root_one hi h50
  omega
theorem hill_ways (j : Nat) (hj : j < 4) : wayN hillL j = 50 * j := by
  have s : ∀ k, k < 3 → stepW (smpD hillL k) (smpD hillL (k + 1)) = 50 := fun k hk => by
    have e : sqP (smpD hillL k) (smpD hillL (k + 1)) = 2500 := by
      match k, hk with
      | 0, _ => decide
      | 1, _ => decide
      | 2, _ => decide
    unfold stepW; rw [e]; exact root_2500
  match j, hj with
  | 0, _ => rfl
  | 1, _ => have a := s 0 (by omega); simp only [wayN]; simp only [Nat.zero_add] at *; rw [a]; rfl
  | 2, _ => have a := s 0 (by omega); have b := s 1 (by omega); simp only [wayN]; simp only [Nat.zero_add, Nat.reduceAdd] at *; rw [a, b]; rfl
  | 3, _ => have a := s 0 (by omega); have b := s 1 (by omega); have c := s 2 (by omega); simp only [wayN]; simp only [Nat.zero_add, Nat.reduceAdd] at *; rw [a, b, c]; rfl
theorem hill_z (k : Nat) : -100000 ≤ (smpD hillL k).z ∧ (smpD hillL k).z ≤ 100000 := by
  match k with
  | 0 => decide
  | 1 => decide
  | 2 => decide
  | 3 => decide
  | n + 4 => exact ⟨by show -100000 ≤ (0 : Int); decide, by show (0 : Int) ≤ 100000; decide⟩

set_option maxHeartbeats 1600000 in
theorem told_any (w : World) : Calls Try.prog 20 #[] w fun x w' => x = .returned (.bool true) ∧ w.grownBy w' none := by
  go_enter Try.func20, Try.ntmps20
  go_wp2_with fail
  refine (hill_any _).mono ?_; rintro x w1 ⟨⟨g, cap, rfl, hown⟩, hg1⟩
  have hA := hill_at hown
  have HA := Lib.hid hA
  clear hown hA
  go_wp2_with fail
  refine (ways_any (hillA g cap) w1 HA.out (n := 4) (E := 0) rfl).mono ?_; rintro x w2 ⟨⟨ao, cap2, rfl, hI⟩, hg2⟩
  have HI := Lib.hid hI
  have G2 := Lib.hid (grown_trans hg1 hg2)
  clear hI HA hg1 hg2
  go_wp2_with fail
  refine (hill_any _).mono ?_; rintro x w3 ⟨⟨g3, cap3, rfl, hown⟩, hg3⟩
  have hcap : 4 ≤ cap3 := by
    rcases hown.2 with ⟨hx, _⟩ | ⟨g', c', cur, hx, _, _, hle, _⟩
    · cases hx
    · injection hx with _ _ h3; omega
  have HA := Lib.hid (hill_at hown)
  have HI3 := Lib.hid (HI.out.grown hg3)
  have G3 := Lib.hid (grown_trans G2.out hg3)
  clear hown HI G2 hg3
  go_wp2_with fail
  refine (climb_two ⟨#[97]⟩ 1 0 g3 0 cap3 hillL none 0 [] none 0 [] 11 (by omega) (by omega) (by decide) (by decide) hcap w3 HA (Lib.hid (hill_chk g3 cap3)) (Lib.hid hill_z) (r := ⟨15, 0, 0, 15⟩) (by show _ = _; decide)).mono ?_; rintro x w4 ⟨rfl, hg4⟩
  have HI4 := Lib.hid (HI3.out.grown hg4)
  have G4 := Lib.hid (grown_trans G3.out hg4)
  clear HA HI3 G3 hg4
  go_wp2_with fail
  have IB : IntsC ((w4.alloc (.cells #[.int .i64 15, .int .i64 0, .int .i64 0] 81)).alloc (.cells #[.int .i64 0, .int .i64 50, .int .i64 100, .int .i64 150] 3)) (some ⟨w4.heap.size + 1, 0, none⟩) 4 (fun j => 50 * j) := fun j hj => by
    refine ⟨_, rfl, ?_⟩
    match j, hj with
    | 0, _ => go_simp
    | 1, _ => go_simp
    | 2, _ => go_simp
    | 3, _ => go_simp
  refine (equal_ints (HI4.out.grown (grown_trans (World.grownBy_alloc _ _ _) (World.grownBy_alloc _ _ _))) IB (fun j hj => hill_ways j hj) (by omega)).mono ?_; rintro e w5 ⟨rfl, hg5⟩
  have c0 : w5.cell? ⟨w4.heap.size, 0, none⟩ = some (.int .i64 15) := grown_cell hg5 (by go_simp)
  have c1 : w5.cell? ⟨w4.heap.size, 1, none⟩ = some (.int .i64 0) := grown_cell hg5 (by go_simp)
  have c2 : w5.cell? ⟨w4.heap.size, 2, none⟩ = some (.int .i64 0) := grown_cell hg5 (by go_simp)
  have G5 := Lib.hid (grown_trans G4.out (grown_trans (grown_trans (World.grownBy_alloc _ _ _) (World.grownBy_alloc _ _ _)) hg5))
  clear IB hg5 HI4 G4
  go_wp2_with fail
  go_ret
  exact ⟨rfl, G5.out⟩
end Go.Proofs.Ytgkhhfojioepgaa
