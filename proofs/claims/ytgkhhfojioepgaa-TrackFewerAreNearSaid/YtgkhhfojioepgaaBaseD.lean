/- Texts that all laws of this seat use, one behind the other. -/
import Derived.Test.YtgkhhfojioepgaaBaseC
import Derived.Test.YtgkhhfojioepgaaShelf
import Derived.Test.YtgkhhfojioepgaaBaseB
import Derived.Maps.AppendAt
import Derived.Deep.RegionHeld3
import Derived.Deep.AppendLies
import Derived.Laws.Pointers
import Derived.WalkKit
import Derived.WalkSpells
import Derived.WalkLawsBesides
import Derived.Handy
import Derived.Lib.Hide
import Derived.Deep.QuietTactic
import Derived.BigQuiet
import Derived.Deep.CutBlock
import Derived.Deep.DeepCutAuto
import Derived.Test.YtgkhhfojioepgaaProg
import Derived.Deep.RegionWith
import Derived.Lib.ItoaNum
import Derived.Laws.BitsAllLaws
namespace Go.Proofs.Ytgkhhfojioepgaa
open Go.RowKit
set_option linter.unusedSimpArgs false
set_option linter.unusedVariables false

theorem equal_ints {w : World} {ao1 ao2 : Option Addr} {n c1 c2 : Nat} {F G : Nat → Int} (h1 : IntsC w ao1 n F) (h2 : IntsC w ao2 n G) (hFG : ∀ j, j < n → F j = G j) (hn : n ≤ 9223372036854775807) :
    Calls Try.prog 44 #[.slice ao1 n c1, .slice ao2 n c2] w fun e w' => e = .returned (.bool true) ∧ w.grownBy w' none := by
  rcases Nat.eq_zero_or_pos n with h0 | h0
  · subst h0
    refine (Try.slices_Equal_int_empty ao1 ao2 c1 0 c2 w (by omega)).mono ?_
    rintro e w' ⟨rfl, rfl⟩
    exact ⟨rfl, grown_refl _ _⟩
  · obtain ⟨g1, rfl, _⟩ := h1 0 h0
    obtain ⟨g2, rfl, _⟩ := h2 0 h0
    have hc1 : ∀ j, j < n → w.cell? ⟨g1, j, none⟩ = some (.int .i64 (F j)) := fun j hj => by
      obtain ⟨g, e, h⟩ := h1 j hj
      injection e with e; injection e with e1 _ _; subst e1; exact h
    have hc2 : ∀ j, j < n → w.cell? ⟨g2, j, none⟩ = some (.int .i64 (F j)) := fun j hj => by
      obtain ⟨g, e, h⟩ := h2 j hj
      injection e with e; injection e with e1 _ _; subst e1; rw [hFG j hj]; exact h
    have hlen : ((List.range n).map F).length = n := by simp
    refine (Try.slices_Equal_int g1 0 n c1 g2 0 n c2 ((List.range n).map F) ((List.range n).map F) w (by omega) (by omega) hn hn (fun j hj => ?_) (fun j hj => ?_)).mono ?_
    · rw [hlen] at hj
      rw [List.getD_eq_getElem?_getD]
      simpa [hj] using hc1 j hj
    · rw [hlen] at hj
      rw [List.getD_eq_getElem?_getD]
      simpa [hj] using hc2 j hj
    · rintro e w' ⟨rfl, q, rfl⟩
      exact ⟨by simp, grown_drewN _ _ _⟩

def hillA (g cap : Nat) : Act := ⟨⟨#[97]⟩, 1, 0, some ⟨g, 0, none⟩, cap, hillL, none, 0, [], none, 0, []⟩
theorem hill_chk (g cap : Nat) : chkE (hillA g cap) = 0 := by rfl
theorem hill_at {w : World} {base g cap : Nat} (h : w.ownsRow base 28 7 (.slice (some ⟨g, 0, none⟩) 4 cap) 4 (hillVs 4)) : ActAt w (hillA g cap) := by
  have hc : ∀ (n : Nat) (u : Value), (hillVs 4)[n]? = some u → w.cell? ⟨g, n, none⟩ = some u := fun n u hu => by
    have q := h.cells (g := g) rfl n u hu
    have e : (⟨g, 0, none⟩ : Addr).add n = ⟨g, n, none⟩ := by unfold Addr.add; split <;> simp_all
    rw [e] at q; exact q
  refine ⟨(by show (1 : Nat) ≤ 140737488355328; decide), (by show ((4 : Nat) : Int) ≤ 9223372036854775807; decide), (by show ((0 : Nat) : Int) ≤ 9223372036854775807; decide), (by show ((0 : Nat) : Int) ≤ 9223372036854775807; decide), ⟨fun h => (by cases h), fun a ha _ => (by cases ha; rfl), fun a ha i hi => ?_⟩, ⟨fun _ => rfl, fun a ha => (by cases ha), fun a ha => (by cases ha), fun i hi => absurd hi (by simp [hillA])⟩, ⟨fun _ => rfl, fun a ha => (by cases ha), fun a ha => (by cases ha), fun i hi => absurd hi (by simp [hillA])⟩⟩
  cases ha
  have h4 : i < 4 := hi
  match i, h4 with
  | 0, _ => exact ⟨hc 0 _ rfl, hc 1 _ rfl, hc 2 _ rfl, hc 3 _ rfl, hc 4 _ rfl, hc 5 _ rfl, hc 6 _ rfl⟩
  | 1, _ => exact ⟨hc 7 _ rfl, hc 8 _ rfl, hc 9 _ rfl, hc 10 _ rfl, hc 11 _ rfl, hc 12 _ rfl, hc 13 _ rfl⟩
  | 2, _ => exact ⟨hc 14 _ rfl, hc 15 _ rfl, hc 16 _ rfl, hc 17 _ rfl, hc 18 _ rfl, hc 19 _ rfl, hc 20 _ rfl⟩
  | 3, _ => exact ⟨hc 21 _ rfl, hc 22 _ rfl, hc 23 _ rfl, hc 24 _ rfl, hc 25 _ rfl, hc 26 _ rfl, hc 27 _ rfl⟩

theorem root_2500 : rootI 2500 = 50 := by
  obtain ⟨r, hr, hi⟩ := rootI_is 2500
  have h50 : IsRoot (2500 : Int).toNat 50 := by unfold IsRoot; decide
  have := root_one hi h50
  omega
theorem hill_ways (j : Nat) (hj : j < 4) : wayN hillL j = 50 * j := by
  have s : ∀ k, k < 3 → stepW (smpD hillL k) (smpD hillL (k + 1)) = 50 := fun k hk => by
    have e : sqP (smpD hillL k) (smpD hillL (k + 1)) = 2500 := by
      match k, hk with
      | 0, _ => decide
      | 1, _ => decide
      | 2, _ => decide
    unfold stepW; rw [e]; exact root_2500
  match j, hj with
  | 0, _ => rfl
  | 1, _ => have a := s 0 (by omega); simp only [wayN]; simp only [Nat.zero_add] at *; rw [a]; rfl
  | 2, _ => have a := s 0 (by omega); have b := s 1 (by omega); simp only [wayN]; simp only [Nat.zero_add, Nat.reduceAdd] at *; rw [a, b]; rfl
  | 3, _ => have a := s 0 (by omega); have b := s 1 (by omega); have c := s 2 (by omega); simp only [wayN]; simp only [Nat.zero_add, Nat.reduceAdd] at *; rw [a, b, c]; rfl
theorem hill_z (k : Nat) : -100000 ≤ (smpD hillL k).z ∧ (smpD hillL k).z ≤ 100000 := by
  match k with
  | 0 => decide
  | 1 => decide
  | 2 => decide
  | 3 => decide
  | n + 4 => exact ⟨by show -100000 ≤ (0 : Int); decide, by show (0 : Int) ≤ 100000; decide⟩

set_option maxHeartbeats 1600000 in
theorem told_any (w : World) : Calls Try.prog 20 #[] w fun x w' => x = .returned (.bool true) ∧ w.grownBy w' none := by
  go_enter Try.func20, Try.ntmps20
  go_wp2_with fail
  refine (hill_any _).mono ?_; rintro x w1 ⟨⟨g, cap, rfl, hown⟩, hg1⟩
  have hA := hill_at hown
  have HA := Lib.hid hA
  clear hown hA
  go_wp2_with fail
  refine (ways_any (hillA g cap) w1 HA.out (n := 4) (E := 0) rfl).mono ?_; rintro x w2 ⟨⟨ao, cap2, rfl, hI⟩, hg2⟩
  have HI := Lib.hid hI
  have G2 := Lib.hid (grown_trans hg1 hg2)
  clear hI HA hg1 hg2
  go_wp2_with fail
  refine (hill_any _).mono ?_; rintro x w3 ⟨⟨g3, cap3, rfl, hown⟩, hg3⟩
  have hcap : 4 ≤ cap3 := by
    rcases hown.2 with ⟨hx, _⟩ | ⟨g', c', cur, hx, _, _, hle, _⟩
    · cases hx
    · injection hx with _ _ h3; omega
  have HA := Lib.hid (hill_at hown)
  have HI3 := Lib.hid (HI.out.grown hg3)
  have G3 := Lib.hid (grown_trans G2.out hg3)
  clear hown HI G2 hg3
  go_wp2_with fail
  refine (climb_two ⟨#[97]⟩ 1 0 g3 0 cap3 hillL none 0 [] none 0 [] 11 (by omega) (by omega) (by decide) (by decide) hcap w3 HA (Lib.hid (hill_chk g3 cap3)) (Lib.hid hill_z) (r := ⟨15, 0, 0, 15⟩) (by show _ = _; decide)).mono ?_; rintro x w4 ⟨rfl, hg4⟩
  have HI4 := Lib.hid (HI3.out.grown hg4)
  have G4 := Lib.hid (grown_trans G3.out hg4)
  clear HA HI3 G3 hg4
  go_wp2_with fail
  have IB : IntsC ((w4.alloc (.cells #[.int .i64 15, .int .i64 0, .int .i64 0] 81)).alloc (.cells #[.int .i64 0, .int .i64 50, .int .i64 100, .int .i64 150] 3)) (some ⟨w4.heap.size + 1, 0, none⟩) 4 (fun j => 50 * j) := fun j hj => by
    refine ⟨_, rfl, ?_⟩
    match j, hj with
    | 0, _ => go_simp
    | 1, _ => go_simp
    | 2, _ => go_simp
    | 3, _ => go_simp
  refine (equal_ints (HI4.out.grown (grown_trans (World.grownBy_alloc _ _ _) (World.grownBy_alloc _ _ _))) IB (fun j hj => hill_ways j hj) (by omega)).mono ?_; rintro e w5 ⟨rfl, hg5⟩
  have c0 : w5.cell? ⟨w4.heap.size, 0, none⟩ = some (.int .i64 15) := grown_cell hg5 (by go_simp)
  have c1 : w5.cell? ⟨w4.heap.size, 1, none⟩ = some (.int .i64 0) := grown_cell hg5 (by go_simp)
  have c2 : w5.cell? ⟨w4.heap.size, 2, none⟩ = some (.int .i64 0) := grown_cell hg5 (by go_simp)
  have G5 := Lib.hid (grown_trans G4.out (grown_trans (grown_trans (World.grownBy_alloc _ _ _) (World.grownBy_alloc _ _ _)) hg5))
  clear IB hg5 HI4 G4
  go_wp2_with fail
  go_ret
  exact ⟨rfl, G5.out⟩
end Go.Proofs.Ytgkhhfojioepgaa
namespace Go.Proofs.Ytgkhhfojioepgaa
open Go.RowKit
set_option linter.unusedSimpArgs false
set_option linter.unusedVariables false

/-- How far somebody comes between two samples. -/
def farV (p q : Smp) (fast : Int) : Int := fast * (q.t - p.t)
/-- Can somebody come from p to q? -/
def agr (p q : Smp) (fast : Int) : Bool := decide (sqP p q ≤ min (farV p q fast) 300000000 * min (farV p q fast) 300000000)
theorem far_bd {p q : Smp} {fast : Int} (f0 : 1 ≤ fast) (f1 : fast ≤ 100000) (t0 : 0 ≤ q.t - p.t) (t1 : q.t - p.t ≤ 1000000) : 0 ≤ farV p q fast ∧ farV p q fast ≤ 100000000000 := by
  unfold farV
  have a : 0 ≤ fast * (q.t - p.t) := Int.mul_nonneg (by omega) t0
  have b : fast * (q.t - p.t) ≤ 100000 * (q.t - p.t) := Int.mul_le_mul_of_nonneg_right f1 t0
  omega
theorem sq_up {a b : Int} (h0 : 0 ≤ a) (h : a ≤ b) : a * a ≤ b * b := Int.mul_le_mul h h h0 (by omega)
/-- The reference says it otherwise. -/
theorem agr_far {p q : Smp} (hp : inPlane p) (hq : inPlane q) {fast : Int} (f0 : 1 ≤ fast) (f1 : fast ≤ 100000) (t0 : 0 ≤ q.t - p.t) (t1 : q.t - p.t ≤ 1000000) :
    agr p q fast = if 400000000 ≤ farV p q fast then true else decide (sqP p q ≤ farV p q fast * farV p q fast) := by
  have hb := far_bd f0 f1 t0 t1
  have hs := sqP_bd hp hq
  unfold agr
  generalize farV p q fast = f at *
  by_cases h : f ≤ 300000000
  · rw [if_neg (by omega), show min f 300000000 = f by omega]
  · have q1 := sq_up (a := 300000000) (b := f) (by omega) (by omega)
    rw [show min f 300000000 = 300000000 by omega]
    have e1 : decide (sqP p q ≤ 300000000 * 300000000) = true := by simp; omega
    rw [e1]
    split
    · rfl
    · symm; simp; omega

section
variable (n : Nat)
/-- Of the d last ones, looked at downwards, the best next one (n: none). -/
def nxt (L : Nat → Nat) (a : Nat → Bool) : Nat → Nat
  | 0 => n
  | d + 1 => if a (n - 1 - d) = true ∧ L (nxt L a d) ≤ L (n - 1 - d) then n - 1 - d else nxt L a d
variable (ag : Nat → Nat → Bool)
/-- How many the longest list from each one on has, and the first one of the longest: behind d rounds. -/
def kpV : Nat → (Nat → Nat) × Nat
  | 0 => (fun _ => 0, n)
  | d + 1 =>
    let L' := fun k => if k = n - 1 - d then (kpV d).1 (nxt n (kpV d).1 (ag (n - 1 - d)) d) + 1 else (kpV d).1 k
    (L', if L' (kpV d).2 ≤ L' (n - 1 - d) then n - 1 - d else (kpV d).2)
/-- The next one of each. -/
def nextK (k : Nat) : Nat := nxt n (kpV n ag (n - 1 - k)).1 (ag k) (n - 1 - k)
end
theorem nxt_in (n : Nat) (L : Nat → Nat) (a : Nat → Bool) : ∀ d, d ≤ n → nxt n L a d ≤ n ∧ (nxt n L a d < n → n - d ≤ nxt n L a d)
  | 0, _ => by simp [nxt]
  | d + 1, h => by
    have ih := nxt_in n L a d (by omega)
    rw [nxt]; split <;> omega
theorem kp_bd (n : Nat) (ag : Nat → Nat → Bool) : ∀ d, d ≤ n → (∀ k, (kpV n ag d).1 k ≤ d) ∧ (∀ k, k < n - d ∨ n ≤ k → (kpV n ag d).1 k = 0) ∧ (kpV n ag d).2 ≤ n ∧ ((kpV n ag d).2 < n → n - d ≤ (kpV n ag d).2) ∧ (0 < d → (kpV n ag d).2 < n)
  | 0, _ => by simp [kpV]
  | d + 1, h => by
    obtain ⟨a, b, c, e, g⟩ := kp_bd n ag d (by omega)
    have hL : ∀ k, (kpV n ag (d + 1)).1 k = if k = n - 1 - d then (kpV n ag d).1 (nxt n (kpV n ag d).1 (ag (n - 1 - d)) d) + 1 else (kpV n ag d).1 k := fun k => rfl
    have hF : (kpV n ag (d + 1)).2 = if (kpV n ag (d + 1)).1 (kpV n ag d).2 ≤ (kpV n ag (d + 1)).1 (n - 1 - d) then n - 1 - d else (kpV n ag d).2 := rfl
    have q := a (nxt n (kpV n ag d).1 (ag (n - 1 - d)) d)
    refine ⟨fun k => ?_, fun k hk => ?_, ?_, ?_, ?_⟩
    · rw [hL]; have := a k; split <;> omega
    · rw [hL, if_neg (by omega)]; exact b k (by omega)
    · rw [hF]; split <;> omega
    · rw [hF]; split <;> omega
    · intro _
      rw [hF]
      split
      · omega
      · rename_i hn
        rcases Nat.lt_or_ge 0 d with z | z
        · exact g z
        · obtain rfl : d = 0 := by omega
          exfalso; apply hn
          rw [hL, hL, if_neg (show ¬ (kpV n ag 0).2 = n - 1 - 0 by simp [kpV]; omega), if_pos rfl]
          simp [kpV]
theorem nextK_in (n : Nat) (ag : Nat → Nat → Bool) (k : Nat) (h : k < n) : k < nextK n ag k ∧ nextK n ag k ≤ n := by
  have := nxt_in n (kpV n ag (n - 1 - k)).1 (ag k) (n - 1 - k) (by omega)
  unfold nextK
  omega
/-- The row of the next ones behind d rounds, as a side writes numbers. -/
def rowK (n : Nat) (ag : Nat → Nat → Bool) (e : Nat → Int) (d : Nat) : Nat → Int := fun k => if k < n ∧ n - d ≤ k then e (nextK n ag k) else 0
theorem rowK_succ (n : Nat) (ag : Nat → Nat → Bool) (e : Nat → Int) {d i : Nat} (h : d < n) (hi : i = n - 1 - d) : rowK n ag e (d + 1) = updI (rowK n ag e d) i (e (nxt n (kpV n ag d).1 (ag i) d)) := by
  subst hi
  funext k
  unfold rowK updI
  by_cases hk : k = n - 1 - d
  · subst hk
    rw [if_pos rfl, if_pos (by omega)]
    unfold nextK
    rw [show n - 1 - (n - 1 - d) = d by omega]
  · rw [if_neg hk]
    show _ = if k < n ∧ n - d ≤ k then e (nextK n ag k) else 0
    by_cases h2 : k < n ∧ n - d ≤ k
    · rw [if_pos h2, if_pos (by omega)]
    · rw [if_neg h2, if_neg (by omega)]
/-- The program's -1. -/
def encM (n x : Nat) : Int := if x = n then -1 else (x : Int)

/-- The list: a number, its next one, and so on. -/
def pth (g : Nat → Nat) (f : Nat) : Nat → Nat
  | 0 => f
  | k + 1 => g (pth g f k)
def pthVs (g : Nat → Nat) (f k : Nat) : List Value := (List.range k).map fun j => .int .i64 (pth g f j)
theorem pthVs_succ (g : Nat → Nat) (f k : Nat) : pthVs g f (k + 1) = pthVs g f k ++ [.int .i64 (pth g f k)] := by simp [pthVs, List.range_succ]
theorem pthVs_len (g : Nat → Nat) (f k : Nat) : (pthVs g f k).length = k := by simp [pthVs]
/-- Where a list ends. -/
def PthEnd (n : Nat) (g : Nat → Nat) (f k : Nat) : Prop := (∀ j, j < k → pth g f j < n) ∧ pth g f k = n
theorem pth_one {n : Nat} {g : Nat → Nat} {f k l : Nat} (h : PthEnd n g f k) (h' : PthEnd n g f l) : k = l := by
  rcases Nat.lt_trichotomy k l with q | q | q
  · have := h'.1 k q; have := h.2; omega
  · exact q
  · have := h.1 l q; have := h'.2; omega
theorem pth_up {n : Nat} {g : Nat → Nat} (hg : ∀ k, k < n → k < g k ∧ g k ≤ n) {f : Nat} (hf : f ≤ n) : ∀ k, (∀ j, j < k → pth g f j < n) → k ≤ pth g f k ∧ pth g f k ≤ n
  | 0, _ => ⟨Nat.zero_le _, hf⟩
  | k + 1, h => by
    have a := (pth_up hg hf k (fun j hj => h j (by omega))).1
    have b := hg _ (h k (by omega))
    show k + 1 ≤ g (pth g f k) ∧ g (pth g f k) ≤ n
    omega
end Go.Proofs.Ytgkhhfojioepgaa
namespace Go.Proofs.Ytgkhhfojioepgaa
open Go.RowKit
set_option linter.unusedSimpArgs false
set_option linter.unusedVariables false

set_option maxHeartbeats 800000 in
theorem refRoot_any (n R : Nat) (hn : n < 9223372036854775808) (hR : Hid (IsRoot n R)) (w : World) :
    Calls Try.prog 107 #[.int .i64 n] w fun e w' => e = .returned (.tuple #[.int .i64 R, .int .i64 0]) ∧ w = w' := by
  have hRb := root_lt hR.out hn
  have hRi : (R : Int) ≤ 3037000499 := by omega
  have hni : (n : Int) ≤ 9223372036854775807 := by omega
  clear hRb hn
  go_enter Try.func107, Try.ntmps107
  go_wp2
  go_loop [4, 5] (fun lv hv => ∃ lo hi : Nat, lv = .int .i64 lo ∧ hv = .int .i64 hi ∧ (lo : Int) ≤ (R : Int) ∧ (R : Int) ≤ (hi : Int) ∧ (hi : Int) ≤ 3037000499) (fun lv hv => (intOf hv - intOf lv).toNat)
  case atStart => exact ⟨0, 3037000499, rfl, rfl, by omega, by omega, by omega⟩
  case round =>
    obtain ⟨lo, hi, rfl, rfl, h1, h2, h3⟩ := hrel
    by_cases hlt : (lo : Int) < (hi : Int)
    · obtain ⟨mid, hmid⟩ : ∃ m, (lo + hi + 1) / 2 = m := ⟨_, rfl⟩
      have hm1 : lo < mid := by omega
      have hm2 : mid ≤ hi := by omega
      have eM : ((lo : Int) + (hi : Int) + 1) / 2 = (mid : Int) := by omega
      obtain ⟨sq, hsq⟩ : ∃ m, mid * mid = m := ⟨_, rfl⟩
      have hsb : sq ≤ 3037000499 * 3037000499 := by rw [← hsq]; exact Nat.mul_le_mul (by omega) (by omega)
      have eQ : IntKind.i64.wrap ((mid : Int) * (mid : Int)) = (sq : Int) := by rw [← Int.natCast_mul, hsq]; exact IntWalk.i64_in _ (by omega)
      have hcmp : sq ≤ n ↔ mid ≤ R := by rw [← hsq]; exact root_le hR.out
      have hm1i : (lo : Int) < (mid : Int) := by omega
      have hm2i : (mid : Int) ≤ (hi : Int) := by omega
      by_cases hc : (sq : Int) ≤ (n : Int)
      · have hc2 : (mid : Int) ≤ (R : Int) := by have := hcmp.1 (by omega); omega
        clear hcmp hmid hsq hsb hm1 hm2
        go_wp2
        go_round
        case rel => exact ⟨mid, hi, by first | rfl | rw [eM], rfl, hc2, h2, h3⟩
        case measure => simp [intOf]; omega
      · have hc2 : (R : Int) ≤ ((mid - 1 : Nat) : Int) := by have := hcmp; omega
        have hm0 : Hid (0 < mid) := by show _ < _; omega
        have hm3 : Hid (((mid - 1 : Nat) : Int) ≤ 3037000499) := by show _ ≤ _; omega
        have HC := Lib.hid hc2
        clear hcmp hmid hsq hsb hm1 hm2 hc2
        go_wp2
        go_round
        case rel => exact ⟨lo, mid - 1, rfl, by have := hm0.out; first | go_num | (rw [eM]; go_num), h1, HC.out, hm3.out⟩
        case measure => simp [intOf]; omega
    · have hr : lo = R := by omega
      have HR := Lib.hid hr; clear hr
      go_wp2
      go_ret2
      exact ⟨ret_ii (by rw [HR.out]) rfl, rfl⟩

theorem refRoot_neg (n : Int) (hn : n < 0) (w : World) : Calls Try.prog 107 #[.int .i64 n] w fun e w' => e = .returned (.tuple #[.int .i64 0, .int .i64 1]) ∧ w = w' := by
  go_enter Try.func107, Try.ntmps107
  go_wp2
  go_ret2
  exact ⟨rfl, rfl⟩
/-- Both Roots return the same. -/
theorem roots (n : Int) (h0 : -9223372036854775808 ≤ n) (h1 : n ≤ 9223372036854775807) : ∃ r e : Int,
    (∀ w, Calls Try.prog 133 #[.int .i64 n] w fun x w' => x = .returned (.tuple #[.int .i64 r, .int .i64 e]) ∧ w = w') ∧
    (∀ w, Calls Try.prog 107 #[.int .i64 n] w fun x w' => x = .returned (.tuple #[.int .i64 r, .int .i64 e]) ∧ w = w') := by
  by_cases hn : n < 0
  · exact ⟨0, 1, root_neg n hn, refRoot_neg n hn⟩
  · obtain ⟨m, rfl⟩ : ∃ m : Nat, (m : Int) = n := ⟨n.toNat, by omega⟩
    obtain ⟨R, hR⟩ := root_exists m
    exact ⟨R, 0, root_any m R (by omega) hR, refRoot_any m R (by omega) hR⟩

end Go.Proofs.Ytgkhhfojioepgaa
namespace Go.Proofs.Ytgkhhfojioepgaa
open Go.RowKit
set_option linter.unusedSimpArgs false
set_option linter.unusedVariables false

theorem rout_no (n lo hi : Int) (h0 : lo ≤ n) (h1 : n ≤ hi) (w : World) : Calls Try.prog 59 #[.int .i64 n, .int .i64 lo, .int .i64 hi] w fun e w' => e = .returned (.bool false) ∧ w = w' := by
  have h2 : decide (n < lo) = false := by simp; omega
  have h3 : decide (hi < n) = false := by simp; omega
  go_enter Try.func59, Try.ntmps59
  go_wp2
  go_ret
  exact ⟨ret_bool (by first | rfl | (simp; omega)), rfl⟩
theorem rout_yes (n lo hi : Int) (h : n < lo ∨ hi < n) (w : World) : Calls Try.prog 59 #[.int .i64 n, .int .i64 lo, .int .i64 hi] w fun e w' => e = .returned (.bool true) ∧ w = w' := by
  by_cases h0 : n < lo
  · clear h
    go_enter Try.func59, Try.ntmps59
    go_wp2
    go_ret
    exact ⟨ret_bool (by first | rfl | (simp; omega)), rfl⟩
  · have h1 : hi < n := by omega
    have h2 : decide (n < lo) = false := by simp; omega
    clear h
    go_enter Try.func59, Try.ntmps59
    go_wp2
    go_ret
    exact ⟨ret_bool (by first | rfl | (simp; omega)), rfl⟩

theorem isPlace_yes (x : Smp) (h : inPlane x) (w : World) :
    Calls Try.prog 106 #[.agg #[.int .i64 x.t, .int .i64 x.x, .int .i64 x.y, .int .i64 x.z, .int .i64 x.p, .int .i64 x.q, .int .i64 x.s]] w fun e w' => e = .returned (.bool true) ∧ w.grownBy w' none := by
  obtain ⟨t, x, y, z, p, q, s⟩ := x
  have H := Lib.hid h; clear h
  go_enter Try.func106, Try.ntmps106
  go_wp2_with fail
  refine (rout_no _ _ _ H.out.1.1 H.out.1.2 _).mono ?_; rintro e w1 ⟨rfl, rfl⟩
  go_wp2_with fail
  refine (rout_no _ _ _ H.out.2.1 H.out.2.2 _).mono ?_; rintro e w1 ⟨rfl, rfl⟩
  go_wp2_with fail
  go_ret
  exact ⟨rfl, World.grownBy_alloc _ _ _⟩
theorem isPlace_no (x : Smp) (h : ¬ inPlane x) (w : World) :
    Calls Try.prog 106 #[.agg #[.int .i64 x.t, .int .i64 x.x, .int .i64 x.y, .int .i64 x.z, .int .i64 x.p, .int .i64 x.q, .int .i64 x.s]] w fun e w' => e = .returned (.bool false) ∧ w.grownBy w' none := by
  obtain ⟨t, x, y, z, p, q, s⟩ := x
  unfold inPlane at h
  simp only at h ⊢
  by_cases h1 : -100000000 ≤ x ∧ x ≤ 100000000
  · have h3 : y < -100000000 ∨ 100000000 < y := by omega
    have H1 := Lib.hid h1; have H3 := Lib.hid h3; clear h h1 h3
    go_enter Try.func106, Try.ntmps106
    go_wp2_with fail
    refine (rout_no _ _ _ H1.out.1 H1.out.2 _).mono ?_; rintro e w1 ⟨rfl, rfl⟩
    go_wp2_with fail
    refine (rout_yes _ _ _ H3.out _).mono ?_; rintro e w1 ⟨rfl, rfl⟩
    go_wp2_with fail
    go_ret
    exact ⟨rfl, World.grownBy_alloc _ _ _⟩
  · have h3 : x < -100000000 ∨ 100000000 < x := by omega
    have H3 := Lib.hid h3; clear h h1 h3
    go_enter Try.func106, Try.ntmps106
    go_wp2_with fail
    refine (rout_yes _ _ _ H3.out _).mono ?_; rintro e w1 ⟨rfl, rfl⟩
    go_wp2_with fail
    go_ret
    exact ⟨rfl, World.grownBy_alloc _ _ _⟩
theorem rsquare_is (a : Int) (h0 : -200000000 ≤ a) (h1 : a ≤ 200000000) (w : World) {n : Int} (h : Hid (a * a = n)) :
    Calls Try.prog 147 #[.int .i64 a] w fun e w' => e = .returned (.int .i64 n) ∧ w' = w := by
  have b := sq_bd h0 h1
  have m : IntKind.i64.wrap (a * a) = n := by rw [h.out]; exact IntWalk.i64_in _ (by rw [← h.out]; omega)
  clear b
  go_enter Try.func147, Try.ntmps147
  go_wp2_with fail
  go_ret
  exact ⟨rfl, rfl⟩
set_option maxRecDepth 100000 in
set_option maxHeartbeats 800000 in
theorem apart_is (p q : Smp) (hp : inPlane p) (hq : inPlane q) (w : World) {n : Int} (h : Hid (sqP p q = n)) :
    Calls Try.prog 108 #[.agg #[.int .i64 p.t, .int .i64 p.x, .int .i64 p.y, .int .i64 p.z, .int .i64 p.p, .int .i64 p.q, .int .i64 p.s], .agg #[.int .i64 q.t, .int .i64 q.x, .int .i64 q.y, .int .i64 q.z, .int .i64 q.p, .int .i64 q.q, .int .i64 q.s]] w fun e w' => e = .returned (.int .i64 n) ∧ w.grownBy w' none := by
  obtain ⟨pt, px, py, pz, pp, pq, ps⟩ := p
  obtain ⟨qt, qx, qy, qz, qp, qq, qs⟩ := q
  unfold inPlane at hp hq
  simp only at hp hq
  have hn : (qx - px) * (qx - px) + (qy - py) * (qy - py) = n := h.out
  obtain ⟨dx, hdx⟩ : ∃ d, px - qx = d := ⟨_, rfl⟩
  obtain ⟨dy, hdy⟩ : ∃ d, py - qy = d := ⟨_, rfl⟩
  have ex : qx - px = -dx := by omega
  have ey : qy - py = -dy := by omega
  rw [ex, ey, Int.neg_mul_neg, Int.neg_mul_neg] at hn
  have bx := sq_bd (a := dx) (by omega) (by omega)
  have by_ := sq_bd (a := dy) (by omega) (by omega)
  have rx : IntKind.i64.wrap (px - qx) = dx := by rw [hdx]; exact IntWalk.i64_in _ (by omega)
  have ry : IntKind.i64.wrap (py - qy) = dy := by rw [hdy]; exact IntWalk.i64_in _ (by omega)
  have dx0 : -200000000 ≤ dx := by omega
  have dx1 : dx ≤ 200000000 := by omega
  have dy0 : -200000000 ≤ dy := by omega
  have dy1 : dy ≤ 200000000 := by omega
  obtain ⟨X, hX⟩ : ∃ d, dx * dx = d := ⟨_, rfl⟩
  obtain ⟨Y, hY⟩ : ∃ d, dy * dy = d := ⟨_, rfl⟩
  rw [hX, hY] at hn
  rw [hX] at bx
  rw [hY] at by_
  have sm : IntKind.i64.wrap (X + Y) = n := by rw [hn]; exact IntWalk.i64_in _ (by omega)
  have HX := Lib.hid hX; have HY := Lib.hid hY; have HDX := Lib.hid hdx; have HDY := Lib.hid hdy; have HP := Lib.hid hp; have HQ := Lib.hid hq; have HBX := Lib.hid bx; have HBY := Lib.hid by_
  have D0 := Lib.hid dx0; have D1 := Lib.hid dx1; have D2 := Lib.hid dy0; have D3 := Lib.hid dy1
  clear hX hY hdx hdy hp hq h hn ex ey bx by_ dx0 dx1 dy0 dy1
  go_enter Try.func108, Try.ntmps108
  go_wp2_with fail
  go_quiet ((go_at_call 147; first | exact Calls.quiet_of_same (rsquare_is dx D0.out D1.out _ HX) | exact Calls.quiet_of_same (rsquare_is dy D2.out D3.out _ HY)))
  go_wp2_with fail
  go_ret
  exact ⟨rfl, grown_trans (grown_trans (World.grownBy_alloc _ _ _) (World.grownBy_alloc _ _ _)) (grown_drewN _ _ _)⟩

set_option maxHeartbeats 800000 in
theorem rstep_any (p q : Smp) (w : World) {n e : Int} (h : Hid (stepE p q = (n, e))) :
    Calls Try.prog 46 #[.agg #[.int .i64 p.t, .int .i64 p.x, .int .i64 p.y, .int .i64 p.z, .int .i64 p.p, .int .i64 p.q, .int .i64 p.s], .agg #[.int .i64 q.t, .int .i64 q.x, .int .i64 q.y, .int .i64 q.z, .int .i64 q.p, .int .i64 q.q, .int .i64 q.s]] w fun x w' => x = .returned (.tuple #[.int .i64 n, .int .i64 e]) ∧ w.grownBy w' none := by
  by_cases h1 : inPlane p
  · by_cases h2 : inPlane q
    · have hv : (n, e) = (stepW p q, 0) := by rw [← h.out]; unfold stepE; rw [if_pos ⟨h1, h2⟩]
      simp only [Prod.mk.injEq] at hv
      have HV := Lib.hid hv.1
      obtain rfl := hv.2
      have H1 := Lib.hid h1; have H2 := Lib.hid h2
      clear hv h1 h2 h
      obtain ⟨pt, px, py, pz, pp, pq, ps⟩ := p
      obtain ⟨qt, qx, qy, qz, qp, qq, qs⟩ := q
      go_enter Try.func46, Try.ntmps46
      go_wp2_with fail
      refine (isPlace_yes ⟨pt, px, py, pz, pp, pq, ps⟩ H1.out _).mono ?_; rintro x w1 ⟨rfl, hg1⟩
      have G1 := grown_trans (grown_trans (World.grownBy_alloc w (.cells #[.int .i64 pt, .int .i64 px, .int .i64 py, .int .i64 pz, .int .i64 pp, .int .i64 pq, .int .i64 ps] 28) none) (World.grownBy_alloc _ (.cells #[.int .i64 qt, .int .i64 qx, .int .i64 qy, .int .i64 qz, .int .i64 qp, .int .i64 qq, .int .i64 qs] 28) none)) hg1
      have ap0 : w1.cell? ⟨w.heap.size, 0, none⟩ = some (.int .i64 pt) := grown_cell hg1 (by simp)
      have aq0 : w1.cell? ⟨w.heap.size + 1, 0, none⟩ = some (.int .i64 qt) := grown_cell hg1 (by simp)
      have ap1 : w1.cell? ⟨w.heap.size, 1, none⟩ = some (.int .i64 px) := grown_cell hg1 (by simp)
      have aq1 : w1.cell? ⟨w.heap.size + 1, 1, none⟩ = some (.int .i64 qx) := grown_cell hg1 (by simp)
      have ap2 : w1.cell? ⟨w.heap.size, 2, none⟩ = some (.int .i64 py) := grown_cell hg1 (by simp)
      have aq2 : w1.cell? ⟨w.heap.size + 1, 2, none⟩ = some (.int .i64 qy) := grown_cell hg1 (by simp)
      have ap3 : w1.cell? ⟨w.heap.size, 3, none⟩ = some (.int .i64 pz) := grown_cell hg1 (by simp)
      have aq3 : w1.cell? ⟨w.heap.size + 1, 3, none⟩ = some (.int .i64 qz) := grown_cell hg1 (by simp)
      have ap4 : w1.cell? ⟨w.heap.size, 4, none⟩ = some (.int .i64 pp) := grown_cell hg1 (by simp)
      have aq4 : w1.cell? ⟨w.heap.size + 1, 4, none⟩ = some (.int .i64 qp) := grown_cell hg1 (by simp)
      have ap5 : w1.cell? ⟨w.heap.size, 5, none⟩ = some (.int .i64 pq) := grown_cell hg1 (by simp)
      have aq5 : w1.cell? ⟨w.heap.size + 1, 5, none⟩ = some (.int .i64 qq) := grown_cell hg1 (by simp)
      have ap6 : w1.cell? ⟨w.heap.size, 6, none⟩ = some (.int .i64 ps) := grown_cell hg1 (by simp)
      have aq6 : w1.cell? ⟨w.heap.size + 1, 6, none⟩ = some (.int .i64 qs) := grown_cell hg1 (by simp)
      clear hg1
      go_wp2_with fail
      refine (isPlace_yes ⟨qt, qx, qy, qz, qp, qq, qs⟩ H2.out _).mono ?_; rintro x w2 ⟨rfl, hg1⟩
      have G2 := grown_trans G1 hg1
      replace ap0 := grown_cell hg1 ap0
      replace aq0 := grown_cell hg1 aq0
      replace ap1 := grown_cell hg1 ap1
      replace aq1 := grown_cell hg1 aq1
      replace ap2 := grown_cell hg1 ap2
      replace aq2 := grown_cell hg1 aq2
      replace ap3 := grown_cell hg1 ap3
      replace aq3 := grown_cell hg1 aq3
      replace ap4 := grown_cell hg1 ap4
      replace aq4 := grown_cell hg1 aq4
      replace ap5 := grown_cell hg1 ap5
      replace aq5 := grown_cell hg1 aq5
      replace ap6 := grown_cell hg1 ap6
      replace aq6 := grown_cell hg1 aq6
      clear hg1 G1
      go_wp2_with fail
      have hb := sqP_bd H1.out H2.out
      obtain ⟨R, hR, hi⟩ := rootI_is (sqP ⟨pt, px, py, pz, pp, pq, ps⟩ ⟨qt, qx, qy, qz, qp, qq, qs⟩)
      obtain ⟨m, hm⟩ : ∃ m : Nat, (m : Int) = sqP ⟨pt, px, py, pz, pp, pq, ps⟩ ⟨qt, qx, qy, qz, qp, qq, qs⟩ := ⟨(sqP ⟨pt, px, py, pz, pp, pq, ps⟩ ⟨qt, qx, qy, qz, qp, qq, qs⟩).toNat, by omega⟩
      have HM : Hid (sqP ⟨pt, px, py, pz, pp, pq, ps⟩ ⟨qt, qx, qy, qz, qp, qq, qs⟩ = (m : Int)) := hm.symm
      have hmt : (sqP ⟨pt, px, py, pz, pp, pq, ps⟩ ⟨qt, qx, qy, qz, qp, qq, qs⟩).toNat = m := by omega
      rw [hmt] at hi
      have HI := Lib.hid hi
      have hml : m < 9223372036854775808 := by omega
      have HML := Lib.hid hml
      have HV2 : Hid ((R : Int) = n) := by show _ = _; rw [HV.out, ← hR]; rfl
      clear hb hR hi hm hmt hml
      refine (apart_is ⟨pt, px, py, pz, pp, pq, ps⟩ ⟨qt, qx, qy, qz, qp, qq, qs⟩ H1.out H2.out _ HM).mono ?_; rintro x w3 ⟨rfl, hg3⟩
      have G3 := grown_trans G2 hg3
      clear hg3 G2
      go_wp2_with fail
      refine (refRoot_any m R HML.out HI _).mono ?_; rintro e w4 ⟨rfl, rfl⟩
      go_wp2_with fail
      go_ret2
      exact ⟨ret_ii HV2.out rfl, G3⟩
    · have hv : (n, e) = (0, 9) := by rw [← h.out]; unfold stepE; rw [if_neg (fun h => h2 h.2)]
      simp only [Prod.mk.injEq] at hv
      obtain ⟨rfl, rfl⟩ := hv
      have H1 := Lib.hid h1; have H2 := Lib.hid h2
      clear h1 h2 h
      obtain ⟨pt, px, py, pz, pp, pq, ps⟩ := p
      obtain ⟨qt, qx, qy, qz, qp, qq, qs⟩ := q
      go_enter Try.func46, Try.ntmps46
      go_wp2_with fail
      refine (isPlace_yes ⟨pt, px, py, pz, pp, pq, ps⟩ H1.out _).mono ?_; rintro x w1 ⟨rfl, hg1⟩
      have G1 := grown_trans (grown_trans (World.grownBy_alloc w (.cells #[.int .i64 pt, .int .i64 px, .int .i64 py, .int .i64 pz, .int .i64 pp, .int .i64 pq, .int .i64 ps] 28) none) (World.grownBy_alloc _ (.cells #[.int .i64 qt, .int .i64 qx, .int .i64 qy, .int .i64 qz, .int .i64 qp, .int .i64 qq, .int .i64 qs] 28) none)) hg1
      have ap0 : w1.cell? ⟨w.heap.size, 0, none⟩ = some (.int .i64 pt) := grown_cell hg1 (by simp)
      have aq0 : w1.cell? ⟨w.heap.size + 1, 0, none⟩ = some (.int .i64 qt) := grown_cell hg1 (by simp)
      have ap1 : w1.cell? ⟨w.heap.size, 1, none⟩ = some (.int .i64 px) := grown_cell hg1 (by simp)
      have aq1 : w1.cell? ⟨w.heap.size + 1, 1, none⟩ = some (.int .i64 qx) := grown_cell hg1 (by simp)
      have ap2 : w1.cell? ⟨w.heap.size, 2, none⟩ = some (.int .i64 py) := grown_cell hg1 (by simp)
      have aq2 : w1.cell? ⟨w.heap.size + 1, 2, none⟩ = some (.int .i64 qy) := grown_cell hg1 (by simp)
      have ap3 : w1.cell? ⟨w.heap.size, 3, none⟩ = some (.int .i64 pz) := grown_cell hg1 (by simp)
      have aq3 : w1.cell? ⟨w.heap.size + 1, 3, none⟩ = some (.int .i64 qz) := grown_cell hg1 (by simp)
      have ap4 : w1.cell? ⟨w.heap.size, 4, none⟩ = some (.int .i64 pp) := grown_cell hg1 (by simp)
      have aq4 : w1.cell? ⟨w.heap.size + 1, 4, none⟩ = some (.int .i64 qp) := grown_cell hg1 (by simp)
      have ap5 : w1.cell? ⟨w.heap.size, 5, none⟩ = some (.int .i64 pq) := grown_cell hg1 (by simp)
      have aq5 : w1.cell? ⟨w.heap.size + 1, 5, none⟩ = some (.int .i64 qq) := grown_cell hg1 (by simp)
      have ap6 : w1.cell? ⟨w.heap.size, 6, none⟩ = some (.int .i64 ps) := grown_cell hg1 (by simp)
      have aq6 : w1.cell? ⟨w.heap.size + 1, 6, none⟩ = some (.int .i64 qs) := grown_cell hg1 (by simp)
      clear hg1
      go_wp2_with fail
      refine (isPlace_no ⟨qt, qx, qy, qz, qp, qq, qs⟩ H2.out _).mono ?_; rintro x w2 ⟨rfl, hg1⟩
      have G2 := grown_trans G1 hg1
      clear hg1 G1
      go_wp2_with fail
      go_ret2
      exact ⟨rfl, G2⟩
  · have hv : (n, e) = (0, 9) := by rw [← h.out]; unfold stepE; rw [if_neg (fun h => h1 h.1)]
    simp only [Prod.mk.injEq] at hv
    obtain ⟨rfl, rfl⟩ := hv
    have H1 := Lib.hid h1
    clear h1 h
    obtain ⟨pt, px, py, pz, pp, pq, ps⟩ := p
    obtain ⟨qt, qx, qy, qz, qp, qq, qs⟩ := q
    go_enter Try.func46, Try.ntmps46
    go_wp2_with fail
    refine (isPlace_no ⟨pt, px, py, pz, pp, pq, ps⟩ H1.out _).mono ?_; rintro x w1 ⟨rfl, hg1⟩
    have G1 := grown_trans (grown_trans (World.grownBy_alloc w (.cells #[.int .i64 pt, .int .i64 px, .int .i64 py, .int .i64 pz, .int .i64 pp, .int .i64 pq, .int .i64 ps] 28) none) (World.grownBy_alloc _ (.cells #[.int .i64 qt, .int .i64 qx, .int .i64 qy, .int .i64 qz, .int .i64 qp, .int .i64 qq, .int .i64 qs] 28) none)) hg1
    clear hg1
    go_wp2_with fail
    go_ret2
    exact ⟨rfl, G1⟩
set_option maxHeartbeats 800000 in
theorem length_is (p q : Smp) (hp : inPlane p) (hq : inPlane q) (w : World) {n : Int} (h : Hid (stepW p q = n)) :
    Calls Try.prog 75 #[.agg #[.int .i64 p.t, .int .i64 p.x, .int .i64 p.y, .int .i64 p.z, .int .i64 p.p, .int .i64 p.q, .int .i64 p.s], .agg #[.int .i64 q.t, .int .i64 q.x, .int .i64 q.y, .int .i64 q.z, .int .i64 q.p, .int .i64 q.q, .int .i64 q.s]] w fun e w' => e = .returned (.int .i64 n) ∧ w.grownBy w' none := by
  have HS : Hid (stepE p q = (n, 0)) := by show _ = _; unfold stepE; rw [if_pos ⟨hp, hq⟩, h.out]
  clear hp hq h
  obtain ⟨pt, px, py, pz, pp, pq, ps⟩ := p
  obtain ⟨qt, qx, qy, qz, qp, qq, qs⟩ := q
  go_enter Try.func75, Try.ntmps75
  go_wp2_with fail
  refine (rstep_any ⟨pt, px, py, pz, pp, pq, ps⟩ ⟨qt, qx, qy, qz, qp, qq, qs⟩ _ HS).mono ?_; rintro x w1 ⟨rfl, hg1⟩
  have G1 := grown_trans (grown_trans (World.grownBy_alloc w (.cells #[.int .i64 pt, .int .i64 px, .int .i64 py, .int .i64 pz, .int .i64 pp, .int .i64 pq, .int .i64 ps] 28) none) (World.grownBy_alloc _ (.cells #[.int .i64 qt, .int .i64 qx, .int .i64 qy, .int .i64 qz, .int .i64 qp, .int .i64 qq, .int .i64 qs] 28) none)) hg1
  clear hg1
  go_wp2_with fail
  go_ret
  exact ⟨rfl, G1⟩

end Go.Proofs.Ytgkhhfojioepgaa
namespace Go.Proofs.Ytgkhhfojioepgaa
open Go.RowKit
set_option linter.unusedSimpArgs false
set_option linter.unusedVariables false

set_option maxRecDepth 100000 in
set_option maxHeartbeats 3200000 in
theorem rwaysL_some (nm : ByteArray) (sp st : Int) (b off sc : Nat) (ss : List Smp) (lo : Option Addr) (lc : Nat) (ls : List LapV) (to_ : Option Addr) (tc : Nat) (ts : List ByteArray) (hl : (ss.length : Int) ≤ 20000) (w : World) (hs : SmpsAt w (some ⟨b, off, none⟩) ss) (hp : ∀ x ∈ ss, inPlane x) :
    Calls Try.prog 110 #[.agg #[.string nm, .int .i64 sp, .int .i64 st, .slice (some ⟨b, off, none⟩) ss.length sc, .slice lo ls.length lc, .slice to_ ts.length tc]] w fun x w' => (∃ v, x = .returned v ∧ w'.ownsRow (w.heap.size + 1) 3 1 v ss.length (wayVs ss ss.length)) ∧ w.grownBy w' none := by
  obtain ⟨i0, hi, hz0, hz1, hz2⟩ := info_parts info_int
  have HS := Lib.hid hs; have HP := Lib.hid hp
  clear hs hp
  go_enter Try.func110, Try.ntmps110
  go_wp2_with fail
  go_loopw [3, 4, 10] (fun lv sv iv wr => ∃ (k : Nat) (v : Value) (sm : Int), k ≤ ss.length ∧ v = lv ∧ sv = .int .i64 sm ∧ iv = .int .i64 k ∧ Hid (sm = sumTo ss k) ∧ Hid (w.grownBy wr none) ∧ Hid (wr.cell? ⟨w.heap.size, 3, none⟩ = some (.slice (some ⟨b, off, none⟩) ss.length sc)) ∧ Hid (wr.ownsRow (w.heap.size + 1) 3 1 v k (wayVs ss k)) ∧ Hid (w.heap.size + 1 ≤ wr.heap.size))
    (fun _ _ iv _ => ss.length - (intOf iv).toNat)
  case atStart => exact ⟨0, _, 0, Nat.zero_le _, rfl, rfl, rfl, rfl, World.grownBy_alloc _ _ _, by show _ = _; simp, World.ownsRow_nil _ _ _ _, by show _ ≤ _; simp⟩
  case round =>
    obtain ⟨k, v, s0, hk, rfl, rfl, rfl, hs0, hG, hbx, hown, hsz⟩ := hrel
    have b3 := hbx.out
    by_cases hlt : k < ss.length
    · obtain ⟨c0, c1, c2, c3, c4, c5, c6⟩ := (HS.out.grown hG.out).cells _ rfl k hlt
      simp only at c0 c1 c2 c3 c4 c5 c6
      have hX : ss[k] = smpD ss k := (smpD_at hlt).symm
      have hxp : inPlane (smpD ss k) := smpD_plane HP.out k
      rw [hX] at c0 c1 c2 c3 c4 c5 c6
      have HLT := Lib.hid hlt
      by_cases hk0 : k = 0
      · have HSM : Hid (wayN ss k = s0) := by show _ = _; rw [hs0.out, hk0]; rfl
        have e2 : decide (0 < (k : Int)) = false := by simp; omega
        have e3 : decide (0 < k) = false := by simp; omega
        have HK := Lib.hid hk0
        clear hk0 hX hxp hs0
        generalize smpD ss k = x at *
        obtain ⟨xt, xx, xy, xz, xp, xq, xs⟩ := x
        simp only at c0 c1 c2 c3 c4 c5 c6
        have OWN : Hid ((wr.alloc (.cells #[.int .i64 xt, .int .i64 xx, .int .i64 xy, .int .i64 xz, .int .i64 xp, .int .i64 xq, .int .i64 xs] 28)).ownsRow (w.heap.size + 1) 3 1 v k (wayVs ss k)) := hown.out.alloc _
        have SZ := hsz
        have GW : Hid (w.grownBy (wr.alloc (.cells #[.int .i64 xt, .int .i64 xx, .int .i64 xy, .int .i64 xz, .int .i64 xp, .int .i64 xq, .int .i64 xs] 28)) none) := grown_trans hG.out (World.grownBy_alloc _ _ _)
        have BX : Hid ((wr.alloc (.cells #[.int .i64 xt, .int .i64 xx, .int .i64 xy, .int .i64 xz, .int .i64 xp, .int .i64 xq, .int .i64 xs] 28)).cell? ⟨w.heap.size, 3, none⟩ = some (.slice (some ⟨b, off, none⟩) ss.length sc)) := grown_cell (World.grownBy_alloc _ _ _) hbx.out
        have hkb : k ≤ 20000 := by omega
        have HCN : Hid (∀ j u, [Value.int .i64 s0][j]? = some u → ((wr.alloc (.cells #[.int .i64 xt, .int .i64 xx, .int .i64 xy, .int .i64 xz, .int .i64 xp, .int .i64 xq, .int .i64 xs] 28)).alloc (.cells #[.int .i64 s0] 3)).cell? ((⟨wr.heap.size + 1, 0, none⟩ : Addr).add j) = some u) := by
          have q := cell_one_new (wr.alloc (.cells #[.int .i64 xt, .int .i64 xx, .int .i64 xy, .int .i64 xz, .int .i64 xp, .int .i64 xq, .int .i64 xs] 28)) (.int .i64 s0) 3
          rw [World.size_alloc] at q; exact q
        clear hown hG hbx
        go_wp2_with (at_builtin; refine wpList_append_own _ rfl _ _ 48 rfl (w.heap.size + 1) 3 i0 (.int .i64 0) 1 8 Try.underlying48 hi hz0 hz1 hz2 rfl (by decide) _ _ _ rfl (OWN.out.alloc _) ⟨wr.heap.size + 1, 0, none⟩ 1 1 [.int .i64 s0] rfl rfl (HCN.out) (by intro u hu; simp at hu; subst hu; rfl) (by unfold maxLen; omega) (by omega) (by have := SZ.out; simp at *; omega) ?_; intro v' w2 hown' hgrow' _)
        have hlt2 := OWN.out.lt
        have GN : w.grownBy w2 none := grown_own GW.out hgrow' (fun g e => by have := (hlt2 g e).1; omega)
        have hbx : w2.cell? ⟨w.heap.size, 3, none⟩ = some (.slice (some ⟨b, off, none⟩) ss.length sc) := by
          rw [World.cell?_of_block (a := ⟨w.heap.size, 3, none⟩) (hgrow'.block w.heap.size (by have := SZ.out; simp; omega) (fun e => by have := (hlt2 _ e.symm).1; omega))]
          exact grown_cell (World.grownBy_alloc _ _ _) BX.out
        have HO2 : Hid (w2.ownsRow (w.heap.size + 1) 3 1 v' (k + 1) (wayVs ss (k + 1))) := by
          show World.ownsRow _ _ _ _ _ _ _; rw [wayVs_succ, HSM.out]; exact hown'
        have HB2 := Lib.hid hbx; have HG2 := Lib.hid GN
        have HSZ2 : Hid (w.heap.size + 1 ≤ w2.heap.size) := by show _ ≤ _; have h1 := hgrow'.size; have h2 := SZ.out; simp at h1; omega
        clear hbx GN hown' hgrow' hlt2
        go_wp2_with fail
        go_roundw
        case rel => exact ⟨k + 1, _, _, by have := HLT.out; omega, rfl, rfl, by go_num, by show _ = _; rw [← HSM.out]; rfl, HG2.out, HB2.out, HO2.out, HSZ2.out⟩
        case measure => have := HLT.out; simp [intOf]; omega
      · obtain ⟨i, hki⟩ : ∃ i, k = i + 1 := ⟨k - 1, by omega⟩
        have hi1 : i < ss.length := by omega
        obtain ⟨d0, d1, d2, d3, d4, d5, d6⟩ := (HS.out.grown hG.out).cells _ rfl i hi1
        simp only at d0 d1 d2 d3 d4 d5 d6
        have hpp : inPlane (smpD ss i) := smpD_plane HP.out i
        rw [← smpD_at hi1] at d0 d1 d2 d3 d4 d5 d6
        obtain ⟨n0, hn0⟩ : ∃ n, stepW (smpD ss i) (smpD ss k) = n := ⟨_, rfl⟩
        have hb1 := wayN_bd HP.out i
        have hb2 := stepW_bd hpp hxp
        have hs1 : s0 = wayN ss i := by rw [hs0.out, hki]; rfl
        have hsmk : wayN ss k = s0 + n0 := by rw [hs1, ← hn0, hki]; rfl
        rw [← hs1] at hb1
        rw [hn0] at hb2
        obtain ⟨sm, hsm⟩ : ∃ sm, s0 + n0 = sm := ⟨_, rfl⟩
        have rs : IntKind.i64.wrap (s0 + n0) = sm := by rw [hsm]; exact IntWalk.i64_in _ (by omega)
        have HSM : Hid (wayN ss k = sm) := hsmk.trans hsm
        have HN0 := Lib.hid hn0
        have e2 : decide (0 < (k : Int)) = true := by simp; omega
        have e3 : 0 < k := by omega
        have ea : ((k : Int) - 1).toNat = i := by omega
        have pa : (0 : Int) ≤ (k : Int) - 1 := by omega
        have pb : (1 : Int) ≤ (k : Int) := by omega
        have ba : (k : Int) - 1 < (ss.length : Int) := by omega
        have ra : IntKind.i64.wrap ((k : Int) - 1) = (k : Int) - 1 := by rw [IntKind.wrap_i64]; omega
        have HKI := Lib.hid hki; have HPP := Lib.hid hpp; have HXP := Lib.hid hxp
        have hkb : k ≤ 20000 := by omega
        clear hk0 hsm hX hxp hs0 hki hpp hn0 hb1 hb2 hs1 hsmk
        generalize smpD ss k = x at *
        generalize smpD ss i = p at *
        obtain ⟨xt, xx, xy, xz, xp, xq, xs⟩ := x
        obtain ⟨pt, px, py, pz, pp, pq, ps⟩ := p
        simp only at c0 c1 c2 c3 c4 c5 c6 d0 d1 d2 d3 d4 d5 d6
        have B0 := World.grownBy_alloc wr (.cells #[.int .i64 xt, .int .i64 xx, .int .i64 xy, .int .i64 xz, .int .i64 xp, .int .i64 xq, .int .i64 xs] 28) none
        have hS0 : (World.grownBy w (wr.alloc (.cells #[.int .i64 xt, .int .i64 xx, .int .i64 xy, .int .i64 xz, .int .i64 xp, .int .i64 xq, .int .i64 xs] 28)) none ∧ World.cell? (wr.alloc (.cells #[.int .i64 xt, .int .i64 xx, .int .i64 xy, .int .i64 xz, .int .i64 xp, .int .i64 xq, .int .i64 xs] 28)) ⟨w.heap.size, 3, none⟩ = some (.slice (some ⟨b, off, none⟩) ss.length sc) ∧ World.cell? (wr.alloc (.cells #[.int .i64 xt, .int .i64 xx, .int .i64 xy, .int .i64 xz, .int .i64 xp, .int .i64 xq, .int .i64 xs] 28)) ⟨wr.heap.size, 0, none⟩ = some (.int .i64 xt) ∧ World.cell? (wr.alloc (.cells #[.int .i64 xt, .int .i64 xx, .int .i64 xy, .int .i64 xz, .int .i64 xp, .int .i64 xq, .int .i64 xs] 28)) ⟨wr.heap.size, 1, none⟩ = some (.int .i64 xx) ∧ World.cell? (wr.alloc (.cells #[.int .i64 xt, .int .i64 xx, .int .i64 xy, .int .i64 xz, .int .i64 xp, .int .i64 xq, .int .i64 xs] 28)) ⟨wr.heap.size, 2, none⟩ = some (.int .i64 xy) ∧ World.cell? (wr.alloc (.cells #[.int .i64 xt, .int .i64 xx, .int .i64 xy, .int .i64 xz, .int .i64 xp, .int .i64 xq, .int .i64 xs] 28)) ⟨wr.heap.size, 3, none⟩ = some (.int .i64 xz) ∧ World.cell? (wr.alloc (.cells #[.int .i64 xt, .int .i64 xx, .int .i64 xy, .int .i64 xz, .int .i64 xp, .int .i64 xq, .int .i64 xs] 28)) ⟨wr.heap.size, 4, none⟩ = some (.int .i64 xp) ∧ World.cell? (wr.alloc (.cells #[.int .i64 xt, .int .i64 xx, .int .i64 xy, .int .i64 xz, .int .i64 xp, .int .i64 xq, .int .i64 xs] 28)) ⟨wr.heap.size, 5, none⟩ = some (.int .i64 xq) ∧ World.cell? (wr.alloc (.cells #[.int .i64 xt, .int .i64 xx, .int .i64 xy, .int .i64 xz, .int .i64 xp, .int .i64 xq, .int .i64 xs] 28)) ⟨wr.heap.size, 6, none⟩ = some (.int .i64 xs) ∧ World.cell? (wr.alloc (.cells #[.int .i64 xt, .int .i64 xx, .int .i64 xy, .int .i64 xz, .int .i64 xp, .int .i64 xq, .int .i64 xs] 28)) ⟨b, off + i * 7, none⟩ = some (.int .i64 pt) ∧ World.cell? (wr.alloc (.cells #[.int .i64 xt, .int .i64 xx, .int .i64 xy, .int .i64 xz, .int .i64 xp, .int .i64 xq, .int .i64 xs] 28)) ⟨b, off + i * 7 + 1, none⟩ = some (.int .i64 px) ∧ World.cell? (wr.alloc (.cells #[.int .i64 xt, .int .i64 xx, .int .i64 xy, .int .i64 xz, .int .i64 xp, .int .i64 xq, .int .i64 xs] 28)) ⟨b, off + i * 7 + 2, none⟩ = some (.int .i64 py) ∧ World.cell? (wr.alloc (.cells #[.int .i64 xt, .int .i64 xx, .int .i64 xy, .int .i64 xz, .int .i64 xp, .int .i64 xq, .int .i64 xs] 28)) ⟨b, off + i * 7 + 3, none⟩ = some (.int .i64 pz) ∧ World.cell? (wr.alloc (.cells #[.int .i64 xt, .int .i64 xx, .int .i64 xy, .int .i64 xz, .int .i64 xp, .int .i64 xq, .int .i64 xs] 28)) ⟨b, off + i * 7 + 4, none⟩ = some (.int .i64 pp) ∧ World.cell? (wr.alloc (.cells #[.int .i64 xt, .int .i64 xx, .int .i64 xy, .int .i64 xz, .int .i64 xp, .int .i64 xq, .int .i64 xs] 28)) ⟨b, off + i * 7 + 5, none⟩ = some (.int .i64 pq) ∧ World.cell? (wr.alloc (.cells #[.int .i64 xt, .int .i64 xx, .int .i64 xy, .int .i64 xz, .int .i64 xp, .int .i64 xq, .int .i64 xs] 28)) ⟨b, off + i * 7 + 6, none⟩ = some (.int .i64 ps) ∧ (wr.alloc (.cells #[.int .i64 xt, .int .i64 xx, .int .i64 xy, .int .i64 xz, .int .i64 xp, .int .i64 xq, .int .i64 xs] 28)).grownBy (wr.alloc (.cells #[.int .i64 xt, .int .i64 xx, .int .i64 xy, .int .i64 xz, .int .i64 xp, .int .i64 xq, .int .i64 xs] 28)) none) := ⟨grown_trans hG.out B0, grown_cell B0 b3, by simp, by simp, by simp, by simp, by simp, by simp, by simp, grown_cell B0 d0, grown_cell B0 d1, grown_cell B0 d2, grown_cell B0 d3, grown_cell B0 d4, grown_cell B0 d5, grown_cell B0 d6, grown_refl _ _⟩
        have hstep : ∀ W W' : World, (World.grownBy w W none ∧ World.cell? W ⟨w.heap.size, 3, none⟩ = some (.slice (some ⟨b, off, none⟩) ss.length sc) ∧ World.cell? W ⟨wr.heap.size, 0, none⟩ = some (.int .i64 xt) ∧ World.cell? W ⟨wr.heap.size, 1, none⟩ = some (.int .i64 xx) ∧ World.cell? W ⟨wr.heap.size, 2, none⟩ = some (.int .i64 xy) ∧ World.cell? W ⟨wr.heap.size, 3, none⟩ = some (.int .i64 xz) ∧ World.cell? W ⟨wr.heap.size, 4, none⟩ = some (.int .i64 xp) ∧ World.cell? W ⟨wr.heap.size, 5, none⟩ = some (.int .i64 xq) ∧ World.cell? W ⟨wr.heap.size, 6, none⟩ = some (.int .i64 xs) ∧ World.cell? W ⟨b, off + i * 7, none⟩ = some (.int .i64 pt) ∧ World.cell? W ⟨b, off + i * 7 + 1, none⟩ = some (.int .i64 px) ∧ World.cell? W ⟨b, off + i * 7 + 2, none⟩ = some (.int .i64 py) ∧ World.cell? W ⟨b, off + i * 7 + 3, none⟩ = some (.int .i64 pz) ∧ World.cell? W ⟨b, off + i * 7 + 4, none⟩ = some (.int .i64 pp) ∧ World.cell? W ⟨b, off + i * 7 + 5, none⟩ = some (.int .i64 pq) ∧ World.cell? W ⟨b, off + i * 7 + 6, none⟩ = some (.int .i64 ps) ∧ (wr.alloc (.cells #[.int .i64 xt, .int .i64 xx, .int .i64 xy, .int .i64 xz, .int .i64 xp, .int .i64 xq, .int .i64 xs] 28)).grownBy W none) → W.grownBy W' none → (World.grownBy w W' none ∧ World.cell? W' ⟨w.heap.size, 3, none⟩ = some (.slice (some ⟨b, off, none⟩) ss.length sc) ∧ World.cell? W' ⟨wr.heap.size, 0, none⟩ = some (.int .i64 xt) ∧ World.cell? W' ⟨wr.heap.size, 1, none⟩ = some (.int .i64 xx) ∧ World.cell? W' ⟨wr.heap.size, 2, none⟩ = some (.int .i64 xy) ∧ World.cell? W' ⟨wr.heap.size, 3, none⟩ = some (.int .i64 xz) ∧ World.cell? W' ⟨wr.heap.size, 4, none⟩ = some (.int .i64 xp) ∧ World.cell? W' ⟨wr.heap.size, 5, none⟩ = some (.int .i64 xq) ∧ World.cell? W' ⟨wr.heap.size, 6, none⟩ = some (.int .i64 xs) ∧ World.cell? W' ⟨b, off + i * 7, none⟩ = some (.int .i64 pt) ∧ World.cell? W' ⟨b, off + i * 7 + 1, none⟩ = some (.int .i64 px) ∧ World.cell? W' ⟨b, off + i * 7 + 2, none⟩ = some (.int .i64 py) ∧ World.cell? W' ⟨b, off + i * 7 + 3, none⟩ = some (.int .i64 pz) ∧ World.cell? W' ⟨b, off + i * 7 + 4, none⟩ = some (.int .i64 pp) ∧ World.cell? W' ⟨b, off + i * 7 + 5, none⟩ = some (.int .i64 pq) ∧ World.cell? W' ⟨b, off + i * 7 + 6, none⟩ = some (.int .i64 ps) ∧ (wr.alloc (.cells #[.int .i64 xt, .int .i64 xx, .int .i64 xy, .int .i64 xz, .int .i64 xp, .int .i64 xq, .int .i64 xs] 28)).grownBy W' none) := fun W W' h g => ⟨grown_trans h.1 g, grown_cell g h.2.1, grown_cell g h.2.2.1, grown_cell g h.2.2.2.1, grown_cell g h.2.2.2.2.1, grown_cell g h.2.2.2.2.2.1, grown_cell g h.2.2.2.2.2.2.1, grown_cell g h.2.2.2.2.2.2.2.1, grown_cell g h.2.2.2.2.2.2.2.2.1, grown_cell g h.2.2.2.2.2.2.2.2.2.1, grown_cell g h.2.2.2.2.2.2.2.2.2.2.1, grown_cell g h.2.2.2.2.2.2.2.2.2.2.2.1, grown_cell g h.2.2.2.2.2.2.2.2.2.2.2.2.1, grown_cell g h.2.2.2.2.2.2.2.2.2.2.2.2.2.1, grown_cell g h.2.2.2.2.2.2.2.2.2.2.2.2.2.2.1, grown_cell g h.2.2.2.2.2.2.2.2.2.2.2.2.2.2.2.1, grown_trans h.2.2.2.2.2.2.2.2.2.2.2.2.2.2.2.2 g⟩
        have hSd : (World.grownBy w (wr.alloc (.cells #[.int .i64 xt, .int .i64 xx, .int .i64 xy, .int .i64 xz, .int .i64 xp, .int .i64 xq, .int .i64 xs] 28)).drew none ∧ World.cell? (wr.alloc (.cells #[.int .i64 xt, .int .i64 xx, .int .i64 xy, .int .i64 xz, .int .i64 xp, .int .i64 xq, .int .i64 xs] 28)).drew ⟨w.heap.size, 3, none⟩ = some (.slice (some ⟨b, off, none⟩) ss.length sc) ∧ World.cell? (wr.alloc (.cells #[.int .i64 xt, .int .i64 xx, .int .i64 xy, .int .i64 xz, .int .i64 xp, .int .i64 xq, .int .i64 xs] 28)).drew ⟨wr.heap.size, 0, none⟩ = some (.int .i64 xt) ∧ World.cell? (wr.alloc (.cells #[.int .i64 xt, .int .i64 xx, .int .i64 xy, .int .i64 xz, .int .i64 xp, .int .i64 xq, .int .i64 xs] 28)).drew ⟨wr.heap.size, 1, none⟩ = some (.int .i64 xx) ∧ World.cell? (wr.alloc (.cells #[.int .i64 xt, .int .i64 xx, .int .i64 xy, .int .i64 xz, .int .i64 xp, .int .i64 xq, .int .i64 xs] 28)).drew ⟨wr.heap.size, 2, none⟩ = some (.int .i64 xy) ∧ World.cell? (wr.alloc (.cells #[.int .i64 xt, .int .i64 xx, .int .i64 xy, .int .i64 xz, .int .i64 xp, .int .i64 xq, .int .i64 xs] 28)).drew ⟨wr.heap.size, 3, none⟩ = some (.int .i64 xz) ∧ World.cell? (wr.alloc (.cells #[.int .i64 xt, .int .i64 xx, .int .i64 xy, .int .i64 xz, .int .i64 xp, .int .i64 xq, .int .i64 xs] 28)).drew ⟨wr.heap.size, 4, none⟩ = some (.int .i64 xp) ∧ World.cell? (wr.alloc (.cells #[.int .i64 xt, .int .i64 xx, .int .i64 xy, .int .i64 xz, .int .i64 xp, .int .i64 xq, .int .i64 xs] 28)).drew ⟨wr.heap.size, 5, none⟩ = some (.int .i64 xq) ∧ World.cell? (wr.alloc (.cells #[.int .i64 xt, .int .i64 xx, .int .i64 xy, .int .i64 xz, .int .i64 xp, .int .i64 xq, .int .i64 xs] 28)).drew ⟨wr.heap.size, 6, none⟩ = some (.int .i64 xs) ∧ World.cell? (wr.alloc (.cells #[.int .i64 xt, .int .i64 xx, .int .i64 xy, .int .i64 xz, .int .i64 xp, .int .i64 xq, .int .i64 xs] 28)).drew ⟨b, off + i * 7, none⟩ = some (.int .i64 pt) ∧ World.cell? (wr.alloc (.cells #[.int .i64 xt, .int .i64 xx, .int .i64 xy, .int .i64 xz, .int .i64 xp, .int .i64 xq, .int .i64 xs] 28)).drew ⟨b, off + i * 7 + 1, none⟩ = some (.int .i64 px) ∧ World.cell? (wr.alloc (.cells #[.int .i64 xt, .int .i64 xx, .int .i64 xy, .int .i64 xz, .int .i64 xp, .int .i64 xq, .int .i64 xs] 28)).drew ⟨b, off + i * 7 + 2, none⟩ = some (.int .i64 py) ∧ World.cell? (wr.alloc (.cells #[.int .i64 xt, .int .i64 xx, .int .i64 xy, .int .i64 xz, .int .i64 xp, .int .i64 xq, .int .i64 xs] 28)).drew ⟨b, off + i * 7 + 3, none⟩ = some (.int .i64 pz) ∧ World.cell? (wr.alloc (.cells #[.int .i64 xt, .int .i64 xx, .int .i64 xy, .int .i64 xz, .int .i64 xp, .int .i64 xq, .int .i64 xs] 28)).drew ⟨b, off + i * 7 + 4, none⟩ = some (.int .i64 pp) ∧ World.cell? (wr.alloc (.cells #[.int .i64 xt, .int .i64 xx, .int .i64 xy, .int .i64 xz, .int .i64 xp, .int .i64 xq, .int .i64 xs] 28)).drew ⟨b, off + i * 7 + 5, none⟩ = some (.int .i64 pq) ∧ World.cell? (wr.alloc (.cells #[.int .i64 xt, .int .i64 xx, .int .i64 xy, .int .i64 xz, .int .i64 xp, .int .i64 xq, .int .i64 xs] 28)).drew ⟨b, off + i * 7 + 6, none⟩ = some (.int .i64 ps) ∧ (wr.alloc (.cells #[.int .i64 xt, .int .i64 xx, .int .i64 xy, .int .i64 xz, .int .i64 xp, .int .i64 xq, .int .i64 xs] 28)).grownBy (wr.alloc (.cells #[.int .i64 xt, .int .i64 xx, .int .i64 xy, .int .i64 xz, .int .i64 xp, .int .i64 xq, .int .i64 xs] 28)).drew none) := hstep _ _ hS0 (grown_drewN _ _ 1)
        have HSTEP := Lib.hid hstep; have HSD := Lib.hid hSd; have HI := Lib.hid hi; have HZ0 := Lib.hid hz0; have HZ1 := Lib.hid hz1; have HZ2 := Lib.hid hz2
        clear hS0 B0 hstep hSd hi hz0 hz1 hz2
        go_wp2_with fail
        clear d0 d1 d2 d3 d4 d5 d6 c0 c1 c2 c3 c4 c5 c6
        go_region_held3 (fun W => (World.grownBy w W none ∧ World.cell? W ⟨w.heap.size, 3, none⟩ = some (.slice (some ⟨b, off, none⟩) ss.length sc) ∧ World.cell? W ⟨wr.heap.size, 0, none⟩ = some (.int .i64 xt) ∧ World.cell? W ⟨wr.heap.size, 1, none⟩ = some (.int .i64 xx) ∧ World.cell? W ⟨wr.heap.size, 2, none⟩ = some (.int .i64 xy) ∧ World.cell? W ⟨wr.heap.size, 3, none⟩ = some (.int .i64 xz) ∧ World.cell? W ⟨wr.heap.size, 4, none⟩ = some (.int .i64 xp) ∧ World.cell? W ⟨wr.heap.size, 5, none⟩ = some (.int .i64 xq) ∧ World.cell? W ⟨wr.heap.size, 6, none⟩ = some (.int .i64 xs) ∧ World.cell? W ⟨b, off + i * 7, none⟩ = some (.int .i64 pt) ∧ World.cell? W ⟨b, off + i * 7 + 1, none⟩ = some (.int .i64 px) ∧ World.cell? W ⟨b, off + i * 7 + 2, none⟩ = some (.int .i64 py) ∧ World.cell? W ⟨b, off + i * 7 + 3, none⟩ = some (.int .i64 pz) ∧ World.cell? W ⟨b, off + i * 7 + 4, none⟩ = some (.int .i64 pp) ∧ World.cell? W ⟨b, off + i * 7 + 5, none⟩ = some (.int .i64 pq) ∧ World.cell? W ⟨b, off + i * 7 + 6, none⟩ = some (.int .i64 ps) ∧ (wr.alloc (.cells #[.int .i64 xt, .int .i64 xx, .int .i64 xy, .int .i64 xz, .int .i64 xp, .int .i64 xq, .int .i64 xs] 28)).grownBy W none)) (first | exact HSD.out | (refine HSTEP.out _ _ ?_ (by assumption) <;> assumption)) (first
          | (go_at_call 75; refine (length_is ⟨pt, px, py, pz, pp, pq, ps⟩ ⟨xt, xx, xy, xz, xp, xq, xs⟩ HPP.out HXP.out _ HN0).mono ?_; rintro x w7 ⟨rfl, hg7⟩))
        all_goals
          rename_i hfin
          obtain ⟨w9, hw9⟩ : ∃ w9, w9 = w7 := ⟨_, rfl⟩
          subst hw9
          have OWN : Hid (w9.ownsRow (w.heap.size + 1) 3 1 v k (wayVs ss k)) := (hown.out.alloc _).kept hfin.2.2.2.2.2.2.2.2.2.2.2.2.2.2.2.2 (by by_cases h : v.ownBlock = none <;> simp [h])
          have SZ : Hid (w.heap.size + 1 ≤ w9.heap.size) := by show _ ≤ _; have h1 := hsz.out; have h2 := hfin.2.2.2.2.2.2.2.2.2.2.2.2.2.2.2.2.size; simp at h2; omega
          have GW : Hid (w.grownBy w9 none) := hfin.1
          have BX : Hid (w9.cell? ⟨w.heap.size, 3, none⟩ = some (.slice (some ⟨b, off, none⟩) ss.length sc)) := hfin.2.1
          have HCN : Hid (∀ j u, [Value.int .i64 sm][j]? = some u → (w9.alloc (.cells #[.int .i64 sm] 3)).cell? ((⟨w9.heap.size, 0, none⟩ : Addr).add j) = some u) := cell_one_new w9 (.int .i64 sm) 3
          have hi := HI.out; have hz0 := HZ0.out; have hz1 := HZ1.out; have hz2 := HZ2.out
          clear hown hsz hG hbx hfin HSTEP HSD b3
          go_wp2_with (at_builtin; refine wpList_append_own _ rfl _ _ 48 rfl (w.heap.size + 1) 3 i0 (.int .i64 0) 1 8 Try.underlying48 hi hz0 hz1 hz2 rfl (by decide) _ _ _ rfl (OWN.out.alloc _) ⟨w9.heap.size, 0, none⟩ 1 1 [.int .i64 sm] rfl rfl (HCN.out) (by intro u hu; simp at hu; subst hu; rfl) (by unfold maxLen; omega) (by omega) (by have := SZ.out; simp at *; omega) ?_; intro v' w2 hown' hgrow' _)
          have hlt2 := OWN.out.lt
          have GN : w.grownBy w2 none := grown_own GW.out hgrow' (fun g e => by have := (hlt2 g e).1; omega)
          have hbx : w2.cell? ⟨w.heap.size, 3, none⟩ = some (.slice (some ⟨b, off, none⟩) ss.length sc) := by
            rw [World.cell?_of_block (a := ⟨w.heap.size, 3, none⟩) (hgrow'.block w.heap.size (by have := SZ.out; simp; omega) (fun e => by have := (hlt2 _ e.symm).1; omega))]
            exact grown_cell (World.grownBy_alloc _ _ _) BX.out
          have HO2 : Hid (w2.ownsRow (w.heap.size + 1) 3 1 v' (k + 1) (wayVs ss (k + 1))) := by
            show World.ownsRow _ _ _ _ _ _ _; rw [wayVs_succ, HSM.out]; exact hown'
          have HB2 := Lib.hid hbx; have HG2 := Lib.hid GN
          have HSZ2 : Hid (w.heap.size + 1 ≤ w2.heap.size) := by show _ ≤ _; have h1 := hgrow'.size; have h2 := SZ.out; simp at h1; omega
          clear hbx GN hown' hgrow' hlt2
          go_wp2_with fail
          go_roundw
          case rel => exact ⟨k + 1, _, _, by have := HLT.out; omega, rfl, rfl, by go_num, by show _ = _; rw [← HSM.out]; rfl, HG2.out, HB2.out, HO2.out, HSZ2.out⟩
          case measure => have := HLT.out; simp [intOf]; omega
    · have hkn : k = ss.length := by omega
      have HK := Lib.hid hkn
      clear hkn
      go_wp2_with fail
      go_ret
      exact ⟨⟨_, rfl, by rw [HK.out] at hown; exact hown.out⟩, hG.out⟩

end Go.Proofs.Ytgkhhfojioepgaa
namespace Go.Proofs.Ytgkhhfojioepgaa
open Go.RowKit
set_option linter.unusedSimpArgs false
set_option linter.unusedVariables false

theorem rwaysL_any (nm : ByteArray) (sp st : Int) (so : Option Addr) (sc : Nat) (ss : List Smp) (lo : Option Addr) (lc : Nat) (ls : List LapV) (to_ : Option Addr) (tc : Nat) (ts : List ByteArray) (hl : (ss.length : Int) ≤ 20000) (w : World) (hs : SmpsAt w so ss) (hp : ∀ x ∈ ss, inPlane x) :
    Calls Try.prog 110 #[.agg #[.string nm, .int .i64 sp, .int .i64 st, .slice so ss.length sc, .slice lo ls.length lc, .slice to_ ts.length tc]] w fun x w' => (∃ v, x = .returned v ∧ w'.ownsRow (w.heap.size + 1) 3 1 v ss.length (wayVs ss ss.length)) ∧ w.grownBy w' none := by
  cases ss with
  | nil =>
    clear hs hp hl
    simp only [List.length_nil]
    go_enter Try.func110, Try.ntmps110
    go_wp2_with fail
    refine wp_loop_rounds 1 ?_
    rw [rounds_succ]
    go_wp2_with fail
    go_ret
    exact ⟨⟨_, rfl, World.ownsRow_nil _ _ _ _⟩, World.grownBy_alloc _ _ _⟩
  | cons x r =>
    match so, hs with
    | none, hs => exact absurd (hs.nil rfl) (by simp)
    | some ⟨b, off, spt⟩, hs =>
      have h := hs.spot _ rfl (by simp)
      simp only at h
      subst h
      exact rwaysL_some nm sp st b off sc (x :: r) lo lc ls to_ tc ts hl w hs hp

theorem own_ints {w : World} {base n : Nat} {v : Value} {ss : List Smp} (h : w.ownsRow base 3 1 v n (wayVs ss n)) : ∃ ao cap, v = .slice ao n cap ∧ IntsC w ao n (wayN ss) := by
  rcases h.2 with ⟨hv, h0⟩ | ⟨g, cap, cur, hv, hb, hg, rest⟩
  · subst h0
    exact ⟨none, 0, hv, fun j hj => absurd hj (by omega)⟩
  · refine ⟨some ⟨g, 0, none⟩, cap, hv, fun j hj => ⟨g, rfl, ?_⟩⟩
    have := h.cells (g := g) (by rw [hv]; rfl) j (.int .i64 (wayN ss j)) (by simp [wayVs, hj])
    rcases Nat.eq_zero_or_pos j with h0 | h0
    · subst h0; simpa [Addr.add] using this
    · simpa [Addr.add, Nat.ne_of_gt h0] using this

set_option maxHeartbeats 800000 in
theorem rways_any (a : Act) (w : World) (ha : ActAt w a) {n : Nat} {E : Int} (hE : Hid (waysE a = (n, E))) :
    Calls Try.prog 48 #[a.val] w fun x w' => (∃ ao cap, x = .returned (.tuple #[.slice ao n cap, .int .i64 E]) ∧ IntsC w' ao n (wayN a.ss)) ∧ w.grownBy w' none := by
  obtain ⟨ce, hce⟩ : ∃ e, chkE a = e := ⟨_, rfl⟩
  have hw := hE.out
  unfold waysE at hw
  have HCE := Lib.hid hce
  have HA := Lib.hid ha
  have hok : ce = 0 → ActOk a := fun h => chk_ok (hce.trans h)
  rw [hce] at hw
  obtain ⟨nm, sp, st, so, sc, ss, lo, lc, ls, to_, tc, ts⟩ := a
  simp only [Act.val] at *
  clear hce hE ha
  by_cases h0 : ce = 0
  · rw [if_pos h0] at hw
    simp only [Prod.mk.injEq] at hw
    obtain ⟨rfl, rfl⟩ := hw
    have hk := hok h0
    subst h0
    have HL := Lib.hid hk.sl; have HP := Lib.hid hk.plane
    clear hok hk
    go_enter Try.func48, Try.ntmps48
    go_wp2_with fail
    refine (rcheck_any ⟨nm, sp, st, so, sc, ss, lo, lc, ls, to_, tc, ts⟩ _ (HA.out.grown (World.grownBy_alloc _ _ _)) HCE).mono ?_; rintro e w1 ⟨rfl, hg1⟩
    have G1 := grown_trans (World.grownBy_alloc w (.cells #[.string nm, .int .i64 sp, .int .i64 st, .slice so ss.length sc, .slice lo ls.length lc, .slice to_ ts.length tc] 26) none) hg1
    have b0 : w1.cell? ⟨w.heap.size, 0, none⟩ = some (.string nm) := grown_cell hg1 (by simp)
    have b1 : w1.cell? ⟨w.heap.size, 1, none⟩ = some (.int .i64 sp) := grown_cell hg1 (by simp)
    have b2 : w1.cell? ⟨w.heap.size, 2, none⟩ = some (.int .i64 st) := grown_cell hg1 (by simp)
    have b3 : w1.cell? ⟨w.heap.size, 3, none⟩ = some (.slice so ss.length sc) := grown_cell hg1 (by simp)
    have b4 : w1.cell? ⟨w.heap.size, 4, none⟩ = some (.slice lo ls.length lc) := grown_cell hg1 (by simp)
    have b5 : w1.cell? ⟨w.heap.size, 5, none⟩ = some (.slice to_ ts.length tc) := grown_cell hg1 (by simp)
    clear hg1
    go_wp2_with fail
    refine (rwaysL_any nm sp st so sc ss lo lc ls to_ tc ts HL.out w1 (HA.out.grown G1).hs HP.out).mono ?_; rintro e w2 ⟨⟨v, rfl, hR⟩, hg2⟩
    have G2 := grown_trans G1 hg2
    obtain ⟨ao, cap, rfl, hI⟩ := own_ints hR
    have HI := Lib.hid hI
    clear hR hg2 G1 hI
    go_wp2_with fail
    go_ret2
    exact ⟨⟨_, _, rfl, HI.out⟩, G2⟩
  · rw [if_neg h0] at hw
    simp only [Prod.mk.injEq] at hw
    obtain ⟨rfl, rfl⟩ := hw
    have hne : (ce != 0) = true := by simpa using h0
    clear hok h0
    go_enter Try.func48, Try.ntmps48
    go_wp2_with fail
    refine (rcheck_any ⟨nm, sp, st, so, sc, ss, lo, lc, ls, to_, tc, ts⟩ _ (HA.out.grown (World.grownBy_alloc _ _ _)) HCE).mono ?_; rintro e w1 ⟨rfl, hg1⟩
    have G1 := grown_trans (World.grownBy_alloc w (.cells #[.string nm, .int .i64 sp, .int .i64 st, .slice so ss.length sc, .slice lo ls.length lc, .slice to_ ts.length tc] 26) none) hg1
    clear hg1
    go_wp2_with fail
    go_ret2
    exact ⟨⟨_, _, rfl, fun j hj => absurd hj (by omega)⟩, G1⟩

end Go.Proofs.Ytgkhhfojioepgaa
namespace Go.Proofs.Ytgkhhfojioepgaa
open Go.RowKit
set_option linter.unusedSimpArgs false
set_option linter.unusedVariables false

theorem own_pth {w : World} {base k : Nat} {v : Value} {g : Nat → Nat} {f : Nat} (h : w.ownsRow base 3 1 v k (pthVs g f k)) : ∃ ao cap, v = .slice ao k cap ∧ IntsC w ao k (fun j => (pth g f j : Int)) := by
  rcases h.2 with ⟨hv, h0⟩ | ⟨g', cap, cur, hv, hb, hg, rest⟩
  · subst h0
    exact ⟨none, 0, hv, fun j hj => absurd hj (by omega)⟩
  · refine ⟨some ⟨g', 0, none⟩, cap, hv, fun j hj => ⟨g', rfl, ?_⟩⟩
    have := h.cells (g := g') (by rw [hv]; rfl) j (.int .i64 (pth g f j)) (by simp [pthVs, hj])
    rcases Nat.eq_zero_or_pos j with h0 | h0
    · subst h0; simpa [Addr.add] using this
    · simpa [Addr.add, Nat.ne_of_gt h0] using this

/-- How far a list can still go. -/
def mK (n : Nat) (v : Value) : Nat := if intOf v < 0 then 0 else n - (intOf v).toNat
theorem mK_lt {n x y : Nat} (h : x < n) (h1 : x < y) (h2 : y ≤ n) : mK n (.int .i64 (encM n y)) < mK n (.int .i64 (x : Int)) := by
  have e : mK n (.int .i64 (x : Int)) = n - x := by unfold mK intOf; simp; omega
  rw [e]
  rcases Nat.lt_or_ge y n with q | q
  · have : encM n y = (y : Int) := by unfold encM; rw [if_neg (by omega)]
    rw [this]
    have e2 : mK n (.int .i64 (y : Int)) = n - y := by unfold mK intOf; simp; omega
    rw [e2]; omega
  · obtain rfl : y = n := by omega
    have : mK y (.int .i64 (encM y y)) = 0 := by unfold mK intOf encM; simp
    rw [this]; omega

set_option maxRecDepth 100000 in
set_option maxHeartbeats 1600000 in
theorem follow_any (R n : Nat) (hn : n ≤ 20000) (g : Nat → Nat) (HG : Hid (∀ k, k < n → k < g k ∧ g k ≤ n)) (f : Nat) (hf : f ≤ n) (w : World) {G : Nat → Int} (hr : RowAt w R n G) (HE : Hid (∀ k, k < n → G k = encM n (g k))) :
    Calls Try.prog 103 #[.slice (some ⟨R, 0, none⟩) n n, .int .i64 (encM n f)] w fun x w' => (∃ v k, x = .returned v ∧ PthEnd n g f k ∧ w'.ownsRow w.heap.size 3 1 v k (pthVs g f k)) ∧ w.grownBy w' none := by
  obtain ⟨i0, hi, hz0, hz1, hz2⟩ := info_parts info_int
  have HI := Lib.hid hi; have HZ0 := Lib.hid hz0; have HZ1 := Lib.hid hz1; have HZ2 := Lib.hid hz2
  have HR := Lib.hid hr; have HF := Lib.hid hf
  clear hi hz0 hz1 hz2 hr hf
  go_enter Try.func103, Try.ntmps103
  go_wp2_with fail
  go_loopw [5, 6] (fun lv iv wr => ∃ (k x : Nat) (v : Value), v = lv ∧ Hid (pth g f k = x) ∧ iv = .int .i64 (encM n x) ∧ k ≤ x ∧ x ≤ n ∧ Hid (∀ j, j < k → pth g f j < n) ∧ Hid (wr.ownsRow w.heap.size 3 1 v k (pthVs g f k)) ∧ Hid (w.grownBy wr none))
    (fun _ iv _ => mK n iv)
  case atStart => exact ⟨0, f, _, rfl, rfl, rfl, Nat.zero_le _, HF.out, fun j hj => absurd hj (Nat.not_lt_zero _), World.ownsRow_nil _ _ _ _, grown_refl _ _⟩
  case round =>
    obtain ⟨k, x, v, rfl, hx, rfl, hk, hxn, hall, hown, hg⟩ := hrel
    by_cases hlt : x < n
    · have ex : encM n x = (x : Int) := by unfold encM; rw [if_neg (by omega)]
      have hgx := HG.out x hlt
      have hall2 : Hid (∀ j, j < k + 1 → pth g f j < n) := fun j hj => by
        rcases Nat.lt_or_ge j k with q | q
        · exact hall.out j q
        · obtain rfl : j = k := by omega
          rw [hx.out]; exact hlt
      have hx2 : Hid (pth g f (k + 1) = g x) := by show g (pth g f k) = g x; rw [hx.out]
      have hvs : Hid (pthVs g f (k + 1) = pthVs g f k ++ [.int .i64 (x : Int)]) := by show _ = _; rw [pthVs_succ, hx.out]
      have cG := RowAt.cell (HR.out.grown hg.out) hlt
      rw [HE.out x hlt] at cG
      obtain ⟨y, hy⟩ : ∃ y, g x = y := ⟨_, rfl⟩
      rw [hy] at cG hgx hx2
      have HCG : Hid (wr.cell? ⟨R, x, none⟩ = some (.int .i64 (encM n y))) := cG
      have hlt2 := hown.out.lt
      have HCN : Hid (∀ j u, [Value.int .i64 (x : Int)][j]? = some u → (wr.alloc (.cells #[.int .i64 (x : Int)] 3)).cell? ((⟨wr.heap.size, 0, none⟩ : Addr).add j) = some u) := cell_one_new wr (.int .i64 (x : Int)) 3
      have hi := HI.out; have hz0 := HZ0.out; have hz1 := HZ1.out; have hz2 := HZ2.out
      have HSZ : Hid (w.heap.size ≤ wr.heap.size) := hg.out.size
      have HLR : Hid (R < wr.heap.size ∧ R < w.heap.size) := ⟨lt_of_block (HR.out.grown hg.out), lt_of_block HR.out⟩
      rw [ex]
      have x0 : (0 : Int) ≤ (x : Int) := by omega
      clear cG hall hx hy
      go_wp2_with (at_builtin; refine wpList_append_own _ rfl _ _ 48 rfl w.heap.size 3 i0 (.int .i64 0) 1 8 Try.underlying48 hi hz0 hz1 hz2 rfl (by decide) _ _ _ rfl (hown.out.alloc _) ⟨wr.heap.size, 0, none⟩ 1 1 [.int .i64 (x : Int)] rfl rfl (HCN.out) (by intro u hu; simp at hu; subst hu; rfl) (by unfold maxLen; omega) (by omega) (by have := HSZ.out; simp at *; omega) ?_; intro v' w2 hown' hgrow' _; have cG2 : w2.cell? ⟨R, x, none⟩ = some (.int .i64 (encM n y)) := (World.cell?_of_block (a := ⟨R, x, none⟩) (hgrow'.block R (by have := HLR.out; simp; omega) (fun e => by have := (hlt2 _ e.symm).1; have := HLR.out; omega))).trans (grown_cell (World.grownBy_alloc _ _ _) HCG.out))
      have HO2 : Hid (w2.ownsRow w.heap.size 3 1 v' (k + 1) (pthVs g f (k + 1))) := by
        show World.ownsRow _ _ _ _ _ _ _; rw [hvs.out]; exact hown'
      have G2 : Hid (w.grownBy w2 none) := grown_own hg.out hgrow' (fun q e => (hlt2 q e).1)
      have rxx : ((x : Int)).toNat = x := by omega
      have xn : (x : Int) < (n : Int) := by omega
      clear hown hown' hgrow' hlt2 hg
      go_wp2_with fail
      go_roundw
      case rel => exact ⟨k + 1, y, _, rfl, hx2.out, rfl, by omega, by omega, hall2.out, HO2.out, G2.out⟩
      case measure => exact mK_lt hlt hgx.1 hgx.2
    · obtain rfl : x = n := by omega
      have ex : encM x x = -1 := by unfold encM; rw [if_pos rfl]
      have HEND : Hid (PthEnd x g f k) := ⟨hall.out, hx.out⟩
      rw [ex]
      clear hall hx
      go_wp2_with fail
      go_ret
      exact ⟨⟨_, k, rfl, HEND.out, hown.out⟩, hg.out⟩
end Go.Proofs.Ytgkhhfojioepgaa
namespace Go.Proofs.Ytgkhhfojioepgaa
open Go.RowKit
set_option linter.unusedSimpArgs false
set_option linter.unusedVariables false

/-- The memory of Keep: the box of the activity, and two rows. -/
structure KpM (w : World) (so : Option Addr) (sn sc R n : Nat) (F G : Nat → Int) (W : World) : Prop where
  b3 : W.cell? ⟨w.heap.size, 3, none⟩ = some (.slice so sn sc)
  r1 : RowAt W R n F
  r2 : RowAt W (R + 1) n G
  g : Below w.heap.size w W
section
variable {w : World} {so : Option Addr} {sn sc R n : Nat} {F G : Nat → Int} {W W' : World}
theorem KpM.grown (h : KpM w so sn sc R n F G W) (hg : W.grownBy W' none) : KpM w so sn sc R n F G W' :=
  ⟨grown_cell hg h.b3, h.r1.grown hg, h.r2.grown hg, h.g.trans ((below_grown hg).mono h.g.size)⟩
theorem KpM.set1 (h : KpM w so sn sc R n F G W) (hR : w.heap.size < R) (k : Nat) (v : Int) : KpM w so sn sc R n (updI F k v) G (W.setCell ⟨R, k, none⟩ (.int .i64 v)) :=
  ⟨by rw [World.cell?_setCell_other _ _ _ _ (fun e => by injection e with e; omega)]; exact h.b3, h.r1.set k v, h.r2.far (by omega) k _, h.g.setCell (by show _ ≤ R; omega) _⟩
theorem KpM.set2 (h : KpM w so sn sc R n F G W) (hR : w.heap.size < R) (k : Nat) (v : Int) : KpM w so sn sc R n F (updI G k v) (W.setCell ⟨R + 1, k, none⟩ (.int .i64 v)) :=
  ⟨by rw [World.cell?_setCell_other _ _ _ _ (fun e => by injection e with e; omega)]; exact h.b3, h.r1.far (by omega) k _, h.r2.set k v, h.g.setCell (by show _ ≤ R + 1; omega) _⟩
theorem KpM.congr (h : KpM w so sn sc R n F G W) {F' G' : Nat → Int} (e1 : ∀ k, k < n → F k = F' k) (e2 : ∀ k, k < n → G k = G' k) : KpM w so sn sc R n F' G' W :=
  ⟨h.b3, h.r1.congr e1, h.r2.congr e2, h.g⟩
end
theorem own_low2 {w : World} {base base' : Nat} {e : TypeId} {size : Nat} {v : Value} {n : Nat} {xs : List Value} (h : w.ownsRow base e size v n xs) (hb : base' ≤ base) : w.ownsRow base' e size v n xs :=
  ⟨h.1, h.2.imp id fun ⟨g, cap, cur, h1, h2, h3⟩ => ⟨g, cap, cur, h1, Nat.le_trans hb h2, h3⟩⟩
/-- May one come from a sample to another one, of an activity? -/
def agS (ss : List Smp) (fast : Int) (i j : Nat) : Bool := agr (smpD ss i) (smpD ss j) fast

/-- The next ones' row and the longest lists' row, in round d, when m of the later ones were looked at. -/
def rowF (n : Nat) (ag : Nat → Nat → Bool) (d m : Nat) : Nat → Int := updI (fun k => (((kpV n ag d).1 k : Nat) : Int)) (n - 1 - d) ((((kpV n ag d).1 (nxt n (kpV n ag d).1 (ag (n - 1 - d)) m) : Nat) : Int) + 1)
def rowG (n : Nat) (ag : Nat → Nat → Bool) (d m : Nat) : Nat → Int := updI (rowK n ag (encM n) d) (n - 1 - d) (encM n (nxt n (kpV n ag d).1 (ag (n - 1 - d)) m))
theorem updI_twice (F : Nat → Int) (k : Nat) (u v : Int) : updI (updI F k u) k v = updI F k v := by
  funext j; unfold updI; split <;> rfl
theorem rowF_zero {n : Nat} {ag : Nat → Nat → Bool} {d : Nat} (h : d < n) : rowF n ag d 0 = updI (fun k => (((kpV n ag d).1 k : Nat) : Int)) (n - 1 - d) 1 := by
  unfold rowF nxt
  rw [(kp_bd n ag d (by omega)).2.1 n (by omega)]; rfl
theorem rowG_zero (n : Nat) (ag : Nat → Nat → Bool) (d : Nat) : rowG n ag d 0 = updI (rowK n ag (encM n) d) (n - 1 - d) (-1) := by
  unfold rowG nxt encM; rw [if_pos rfl]
theorem rowF_end {n : Nat} {ag : Nat → Nat → Bool} {d : Nat} (k : Nat) : rowF n ag d d k = (((kpV n ag (d + 1)).1 k : Nat) : Int) := by
  show updI _ _ _ k = ((if k = n - 1 - d then (kpV n ag d).1 (nxt n (kpV n ag d).1 (ag (n - 1 - d)) d) + 1 else (kpV n ag d).1 k : Nat) : Int)
  unfold updI; split <;> simp
theorem rowG_end {n : Nat} {ag : Nat → Nat → Bool} {d : Nat} (h : d < n) : rowG n ag d d = rowK n ag (encM n) (d + 1) := by
  rw [rowK_succ n ag (encM n) h rfl]; rfl
theorem rowF_at {n : Nat} {ag : Nat → Nat → Bool} {d m : Nat} : rowF n ag d m (n - 1 - d) = (((kpV n ag d).1 (nxt n (kpV n ag d).1 (ag (n - 1 - d)) m) : Nat) : Int) + 1 := by
  unfold rowF updI; rw [if_pos rfl]
theorem rowF_far {n : Nat} {ag : Nat → Nat → Bool} {d m k : Nat} (h : k ≠ n - 1 - d) : rowF n ag d m k = (((kpV n ag d).1 k : Nat) : Int) := by
  unfold rowF updI; rw [if_neg h]
/-- A later one is looked at: the same, or it is the next one. -/
theorem rows_stay {n : Nat} {ag : Nat → Nat → Bool} {d m j : Nat} (hj : j = n - 1 - m) (h : ¬ (ag (n - 1 - d) j = true ∧ (kpV n ag d).1 (nxt n (kpV n ag d).1 (ag (n - 1 - d)) m) ≤ (kpV n ag d).1 j)) : rowF n ag d (m + 1) = rowF n ag d m ∧ rowG n ag d (m + 1) = rowG n ag d m := by
  subst hj
  have e : nxt n (kpV n ag d).1 (ag (n - 1 - d)) (m + 1) = nxt n (kpV n ag d).1 (ag (n - 1 - d)) m := by rw [nxt, if_neg h]
  unfold rowF rowG
  rw [e]
  exact ⟨rfl, rfl⟩
theorem rows_go {n : Nat} {ag : Nat → Nat → Bool} {d m j : Nat} (hm : m < d) (hd : d < n) (hj : j = n - 1 - m) (h1 : ag (n - 1 - d) j = true) (h2 : (kpV n ag d).1 (nxt n (kpV n ag d).1 (ag (n - 1 - d)) m) ≤ (kpV n ag d).1 j) : rowF n ag d (m + 1) = updI (rowF n ag d m) (n - 1 - d) ((((kpV n ag d).1 j : Nat) : Int) + 1) ∧ rowG n ag d (m + 1) = updI (rowG n ag d m) (n - 1 - d) (j : Int) := by
  subst hj
  unfold rowF rowG
  rw [updI_twice, updI_twice]
  have e : nxt n (kpV n ag d).1 (ag (n - 1 - d)) (m + 1) = n - 1 - m := by rw [nxt, if_pos ⟨h1, h2⟩]
  rw [e]
  have e2 : encM n (n - 1 - m) = ((n - 1 - m : Nat) : Int) := by unfold encM; rw [if_neg (by omega)]
  rw [e2]
  exact ⟨rfl, rfl⟩
/-- The memory of the reference's Keep and Fewest: the box of the activity, and two rows. -/
structure KrM (w : World) (so : Option Addr) (sn sc R T n : Nat) (F G : Nat → Int) (W : World) : Prop where
  b3 : W.cell? ⟨w.heap.size, 3, none⟩ = some (.slice so sn sc)
  r1 : RowAt W R n F
  r2 : RowAt W T n G
  g : Below w.heap.size w W
section
variable {w : World} {so : Option Addr} {sn sc R T n : Nat} {F G : Nat → Int} {W W' : World}
theorem KrM.grown (h : KrM w so sn sc R T n F G W) (hg : W.grownBy W' none) : KrM w so sn sc R T n F G W' :=
  ⟨grown_cell hg h.b3, h.r1.grown hg, h.r2.grown hg, h.g.trans ((below_grown hg).mono h.g.size)⟩
theorem KrM.set1 (h : KrM w so sn sc R T n F G W) (hR : w.heap.size < R ∧ w.heap.size < T ∧ R ≠ T) (k : Nat) (v : Int) : KrM w so sn sc R T n (updI F k v) G (W.setCell ⟨R, k, none⟩ (.int .i64 v)) :=
  ⟨by rw [World.cell?_setCell_other _ _ _ _ (fun e => by injection e with e; omega)]; exact h.b3, h.r1.set k v, h.r2.far hR.2.2.symm k _, h.g.setCell (by show _ ≤ R; omega) _⟩
theorem KrM.set2 (h : KrM w so sn sc R T n F G W) (hR : w.heap.size < R ∧ w.heap.size < T ∧ R ≠ T) (k : Nat) (v : Int) : KrM w so sn sc R T n F (updI G k v) (W.setCell ⟨T, k, none⟩ (.int .i64 v)) :=
  ⟨by rw [World.cell?_setCell_other _ _ _ _ (fun e => by injection e with e; omega)]; exact h.b3, h.r1.far hR.2.2 k _, h.r2.set k v, h.g.setCell (by show _ ≤ T; omega) _⟩
theorem KrM.congr (h : KrM w so sn sc R T n F G W) {F' G' : Nat → Int} (e1 : ∀ k, k < n → F k = F' k) (e2 : ∀ k, k < n → G k = G' k) : KrM w so sn sc R T n F' G' W :=
  ⟨h.b3, h.r1.congr e1, h.r2.congr e2, h.g⟩
end
theorem kr_new {w w1 : World} {so : Option Addr} {sn sc n : Nat} {F G : Nat → Int} (b3 : w1.cell? ⟨w.heap.size, 3, none⟩ = some (.slice so sn sc)) (g : Below w.heap.size w w1) (h : w.heap.size < w1.heap.size) (hF : ∀ k, k < n → F k = 0) (hG : ∀ k, k < n → G k = 0) :
    KrM w so sn sc w1.heap.size (w1.heap.size + 1) n F G ((w1.alloc (.cells (madeCells #[.int .i64 0] n) 3)).alloc (.cells (madeCells #[.int .i64 0] n) 3)) ∧ KrM w so sn sc (w1.heap.size + 1) w1.heap.size n F G ((w1.alloc (.cells (madeCells #[.int .i64 0] n) 3)).alloc (.cells (madeCells #[.int .i64 0] n) 3)) := by
  have hb := grown_cell (grown_trans (World.grownBy_alloc w1 (.cells (madeCells #[.int .i64 0] n) 3) none) (World.grownBy_alloc _ (.cells (madeCells #[.int .i64 0] n) 3) none)) b3
  have gg := (g.alloc (Nat.le_of_lt h) (.cells (madeCells #[.int .i64 0] n) 3)).alloc (by simp; omega) (.cells (madeCells #[.int .i64 0] n) 3)
  have a : ∀ (H : Nat → Int), (∀ k, k < n → H k = 0) → RowAt ((w1.alloc (.cells (madeCells #[.int .i64 0] n) 3)).alloc (.cells (madeCells #[.int .i64 0] n) 3)) w1.heap.size n H ∧ RowAt ((w1.alloc (.cells (madeCells #[.int .i64 0] n) 3)).alloc (.cells (madeCells #[.int .i64 0] n) 3)) (w1.heap.size + 1) n H := fun H hH => by
    have e : madeCells #[Value.int .i64 0] n = iRow n H := by rw [iRow_zero, iRow_congr (G := H) (fun k hk => (hH k hk).symm)]
    constructor
    · unfold RowAt
      rw [Below.heap_alloc _ _ _ (by simp), heap_alloc_new, e]
    · have q := heap_alloc_new (w1.alloc (.cells (madeCells #[.int .i64 0] n) 3)) (.cells (madeCells #[.int .i64 0] n) 3)
      unfold RowAt
      rw [← e]
      simpa using q
  exact ⟨⟨hb, (a F hF).1, (a G hG).2, gg⟩, ⟨hb, (a F hF).2, (a G hG).1, gg⟩⟩
end Go.Proofs.Ytgkhhfojioepgaa
namespace Go.Proofs.Ytgkhhfojioepgaa
set_option linter.unusedSimpArgs false
set_option linter.unusedVariables false

section
variable {P : Program} {ops : Array Oper} {Q : Exit → Go.Act → World → Prop} {md : Region.Mode} {S : Array Bool → World → Prop}

/-- What has come up came up behind all that it waits for. -/
def ClosedL (md : Region.Mode) (ops : Array Oper) (L : Array Bool) : Prop := ∀ j oj, ops[j]? = some oj → L.getD j false = true → ∀ e ∈ oj.after, Region.binds md e = true → L.getD e.on false = true
theorem closed_none : ClosedL md ops (Array.replicate ops.size false) := fun j oj hj h => by
  by_cases hlt : j < ops.size
  · simp [hlt] at h
  · simp [hlt] at h
theorem closed_next {L : Array Bool} {j : Nat} (hL : ClosedL md ops L) (hj : j ∈ Region.ready md ops L) : ClosedL md ops (L.setIfInBounds j true) := fun k ok hk h e he hb => by
  by_cases hjk : j = k
  · subst hjk
    obtain ⟨_, o, ho, hall⟩ := mem_ready.1 hj
    rw [ho] at hk; cases hk
    exact getD_set_true (hall e he hb)
  · rw [getD_set_ne false hjk] at h
    exact getD_set_true (hL k ok hk h e he hb)

/-- Whatever order is picked from here on, and S holds behind every operation, of what has come up. -/
def wpAnyS (P : Program) (md : Region.Mode) (ops : Array Oper) (Q : Exit → Go.Act → World → Prop) (S : Array Bool → World → Prop) : Nat → Array Bool → Go.Act → World → Prop
  | 0, listed, a, w => Region.ready md ops listed = [] ∧ Q .normal a w
  | fuel + 1, listed, a, w =>
    (Region.ready md ops listed = [] → Q .normal a w) ∧
    ∀ i ∈ Region.ready md ops listed, wpOp P ops Q i (fun a' w' => S (listed.setIfInBounds i true) w' ∧ wpAnyS P md ops Q S fuel (listed.setIfInBounds i true) a' w') a w

theorem wpAny_of_late : ∀ (fuel : Nat) (listed : Array Bool) (a : Go.Act) (w : World), wpAnyS P md ops Q S fuel listed a w → wpAny P md ops Q fuel listed a w
  | 0, _, _, _, h => h
  | fuel + 1, _, _, _, h => ⟨h.1, fun i hi => wpOp_mono (fun a' w' h' => wpAny_of_late fuel _ a' w' h'.2) (h.2 i hi)⟩

/-- The worlds in which operation i may come up. -/
def Before (md : Region.Mode) (ops : Array Oper) (S : Array Bool → World → Prop) (i : Nat) (w : World) : Prop := ∃ L, ClosedL md ops L ∧ L.getD i false = false ∧ S L w

theorem wpAnyS_first {i : Nat} {oi : Oper} {v : Value} (hi : ops[i]? = some oi) (hsel : ∀ (j : Nat) (o : Oper) cs b, ops[j]? = some o → o.op ≠ .select cs b)
    (hQ : ∀ c a w, Q (.panic c) (a.put oi.dst v) w → Q (.panic c) a w) (hSi : ∀ L w, S (L.setIfInBounds i true) w ↔ S L w) :
    ∀ (fuel : Nat) (listed : Array Bool) (a : Go.Act) (w : World),
      (∀ j oj, ops[j]? = some oj → j ≠ i → listed.getD j true = false → (∀ e ∈ oj.after, Region.binds md e = true → e.on ≠ i) → oi.apart ops oj = true) →
      i ∈ Region.ready md ops listed → ClosedL md ops listed → YieldsIf P ops (Before md ops S i) oi v a → S listed w →
      wpAnyS P md ops Q S fuel (listed.setIfInBounds i true) (a.put oi.dst v) w → wpAnyS P md ops Q S (fuel + 1) listed a w := by
  have hmay : ∀ (L : Array Bool) (j : Nat), j ∈ Region.ready md ops L → L.getD j false = false := fun L j hj => by
    have h0 := (mem_ready.1 hj).1
    rcases Nat.lt_or_ge j L.size with h' | h'
    · simp [h'] at h0 ⊢; exact h0
    · simp [h'] at h0 ⊢
  intro fuel
  induction fuel with
  | zero =>
    intro listed a w _ hr hc hy hS H
    refine ⟨fun h => (by rw [h] at hr; cases hr), fun j hj => ?_⟩
    by_cases hji : j = i
    · subst hji; exact hy.wpOp hi ⟨listed, hc, hmay listed _ hr, hS⟩ ⟨(hSi _ _).2 hS, H⟩
    · have := ready_mono hj hji
      rw [H.1] at this
      cases this
  | succ fuel ih =>
    intro listed a w hfree hr hc hy hS H
    refine ⟨fun h => (by rw [h] at hr; cases hr), fun j hj => ?_⟩
    by_cases hji : j = i
    · subst hji; exact hy.wpOp hi ⟨listed, hc, hmay listed _ hr, hS⟩ ⟨(hSi _ _).2 hS, H⟩
    · have h1 := H.2 j (ready_mono hj hji)
      obtain ⟨hjun, oj, hoj, hall⟩ := mem_ready.1 hj
      have hnot : ∀ e ∈ oj.after, Region.binds md e = true → e.on ≠ i := fun e he hb heq => by
        have h1 := hall e he hb
        have h0 := hmay listed i hr
        rw [heq, h0] at h1
        cases h1
      have h2 := wpOp_putIf hoj (hfree j oj hoj hji hjun hnot) (fun cs b => hsel i oi cs b hi) (fun cs b => hsel j oj cs b hoj) hQ hy h1
      have hfree' : ∀ k ok, ops[k]? = some ok → k ≠ i → (listed.setIfInBounds j true).getD k true = false →
          (∀ e ∈ ok.after, Region.binds md e = true → e.on ≠ i) → oi.apart ops ok = true := fun k ok hk hki hun hno => by
        refine hfree k ok hk hki ?_ hno
        by_cases hjk : j = k
        · subst hjk; exact hjun
        · rw [getD_set_ne true hjk] at hun; exact hun
      refine wpOp_mono (fun a' w' h3 => ?_) h2
      have hSj : S (listed.setIfInBounds j true) w' := by
        have := h3.2.1
        rw [← Array.setIfInBounds_comm _ _ hji] at this
        exact (hSi _ _).1 this
      refine ⟨hSj, ih (listed.setIfInBounds j true) a' w' hfree' (ready_mono hr (Ne.symm hji)) (closed_next hc hj) h3.1 hSj ?_⟩
      rw [Array.setIfInBounds_comm _ _ hji]
      exact h3.2.2

theorem wpAnyS_take {i : Nat} {oi : Oper} {v : Value} {fuel : Nat} {listed : Array Bool} {a : Go.Act} {w : World} (hi : ops[i]? = some oi)
    (hs : Region.noSelect ops = true) (hf : Region.free md ops listed i = true) (hr : (Region.ready md ops listed).contains i = true) (hSi : ∀ L w, S (L.setIfInBounds i true) w ↔ S L w)
    (hQ : ∀ c a w, Q (.panic c) (a.put oi.dst v) w → Q (.panic c) a w) (hy : YieldsIf P ops (Before md ops S i) oi v a) (hc : ClosedL md ops listed) (hS : S listed w)
    (h : ClosedL md ops (listed.setIfInBounds i true) → S (listed.setIfInBounds i true) w → wpAnyS P md ops Q S fuel (listed.setIfInBounds i true) (a.put oi.dst v) w) : wpAnyS P md ops Q S (fuel + 1) listed a w :=
  wpAnyS_first hi (Region.noSelect_spec hs) hQ hSi fuel listed a w (Region.free_spec hi hf) (by simpa using hr) hc hy hS (h (closed_next hc (by simpa using hr)) ((hSi _ _).2 hS))

theorem wpAnyS_done {listed : Array Bool} {a : Go.Act} {w : World} (hr : Region.ready md ops listed = []) (h : Q .normal a w) :
    ∀ fuel, wpAnyS P md ops Q S fuel listed a w
  | 0 => ⟨hr, h⟩
  | _ + 1 => ⟨fun _ => h, by rw [hr]; simp⟩

/-- Each of the operations rs comes up next. -/
def AllReadyS (P : Program) (md : Region.Mode) (ops : Array Oper) (Q : Exit → Go.Act → World → Prop) (S : Array Bool → World → Prop) (fuel : Nat) (listed : Array Bool) (a : Go.Act) (w : World) (rs : List Nat) : Prop :=
  ∀ i ∈ rs, i ∈ Region.ready md ops listed → wpOp P ops Q i (fun a' w' => S (listed.setIfInBounds i true) w' ∧ wpAnyS P md ops Q S fuel (listed.setIfInBounds i true) a' w') a w
theorem AllReadyS.nil {fuel : Nat} {listed : Array Bool} {a : Go.Act} {w : World} : AllReadyS P md ops Q S fuel listed a w [] := fun _ h => by cases h
theorem AllReadyS.cons {fuel : Nat} {listed : Array Bool} {a : Go.Act} {w : World} {i : Nat} {o : Oper} {rs : List Nat} (ho : ops[i]? = some o) (hc : ClosedL md ops listed)
    (h : ∀ K' : Go.Act → World → Prop, Shut (∀ a w, S (listed.setIfInBounds i true) w → (ClosedL md ops (listed.setIfInBounds i true) → S (listed.setIfInBounds i true) w → wpAnyS P md ops Q S fuel (listed.setIfInBounds i true) a w) → K' a w) → if Region.wanted o (yielded ops a.tmps) = true then Oper.wp P o a w K' Q else K' (a.put o.dst undef) w)
    (hs : AllReadyS P md ops Q S fuel listed a w rs) : AllReadyS P md ops Q S fuel listed a w (i :: rs) := fun j hj hr => by
  rcases List.mem_cons.1 hj with rfl | hj
  · exact wpOp_step ho (fun K' hK => h K' (fun a w hS hW => hK a w ⟨hS, hW (closed_next hc hr) hS⟩))
  · exact hs j hj hr
theorem wpAnyS_ready {rs : List Nat} {fuel : Nat} {listed : Array Bool} {a : Go.Act} {w : World} (hr : Region.ready md ops listed = rs) (hne : rs ≠ [])
    (h : AllReadyS P md ops Q S fuel listed a w rs) : wpAnyS P md ops Q S (fuel + 1) listed a w :=
  ⟨fun h0 => absurd (hr ▸ h0) hne, fun i hi => h i (hr ▸ hi) hi⟩

/-- The beginning. -/
theorem region_late {id : Nat} {a : Go.Act} {w : World} (S : Array Bool → World → Prop) (hm : P.follows .mixedOrders = true) (hS : S (Array.replicate ops.size false) w.drew)
    (h : ClosedL .any ops (Array.replicate ops.size false) → S (Array.replicate ops.size false) w.drew → wpAnyS P .any ops Q S ops.size (Array.replicate ops.size false) a w.drew) : (Code.region id ops true).wp P Q a w :=
  wp_region_any hm (wpAny_of_late _ _ _ _ (h closed_none hS))

/-- What waits for something that has not come up has not come up. -/
theorem closed_not {L : Array Bool} {j k : Nat} {ok : Oper} (hL : ClosedL md ops L) (hk : ops[k]? = some ok) (he : (ok.after.any fun e => Region.binds md e && e.on == j) = true) (hj : L.getD j false = false) : L.getD k false = false := by
  obtain ⟨e, hm, h2⟩ := Array.any_eq_true'.1 he
  simp only [Bool.and_eq_true, beq_iff_eq] at h2
  cases h : L.getD k false with
  | false => rfl
  | true =>
    have := hL k ok hk h e hm h2.1
    rw [h2.2, hj] at this
    cases this

/-- What is kept is told by whether the operations p and q have come up. -/
theorem late_iff {T : Bool → Bool → World → Prop} {p q i : Nat} (h1 : i ≠ p) (h2 : i ≠ q) (L : Array Bool) (w : World) : T ((L.setIfInBounds i true).getD p false) ((L.setIfInBounds i true).getD q false) w ↔ T (L.getD p false) (L.getD q false) w := by
  rw [getD_set_ne false h1, getD_set_ne false h2]
end
end Go.Proofs.Ytgkhhfojioepgaa
namespace Go.Proofs.Ytgkhhfojioepgaa
set_option linter.unusedSimpArgs false
set_option linter.unusedVariables false

def lateK (G : World → Prop) : List (Nat × Addr × Value) → Array Bool → World → Prop
  | [], _, V => G V
  | c :: r, L, V => (L.getD c.1 false = false → V.cell? c.2.1 = some c.2.2) ∧ lateK G r L V
section
variable {P : Program} {ops : Array Oper} {Q : Exit → Go.Act → World → Prop} {md : Region.Mode} {G : World → Prop} {W : World}
theorem lateK_iff : ∀ {cs : List (Nat × Addr × Value)} {i : Nat}, (cs.all fun c => c.1 != i) = true → ∀ (L : Array Bool) (V : World), lateK G cs (L.setIfInBounds i true) V ↔ lateK G cs L V
  | [], _, _, _, _ => Iff.rfl
  | c :: r, i, h, L, V => by
    simp only [List.all_cons, Bool.and_eq_true, bne_iff_ne, ne_eq] at h
    unfold lateK
    rw [getD_set_ne false (Ne.symm h.1), lateK_iff (cs := r) (by simpa using h.2) L V]
theorem lateK_get : ∀ {cs : List (Nat × Addr × Value)} {L : Array Bool} {V : World} {j p : Nat} {A : Addr} {v : Value}, lateK G cs L V → cs[j]? = some (p, A, v) → L.getD p false = false → V.cell? A = some v
  | c :: r, L, V, 0, p, A, v, h, hc, hf => by
    simp only [List.getElem?_cons_zero, Option.some.injEq] at hc
    subst hc; exact h.1 hf
  | c :: r, L, V, j + 1, p, A, v, h, hc, hf => lateK_get (cs := r) h.2 (by simpa using hc) hf
theorem lateK_fact : ∀ {cs : List (Nat × Addr × Value)} {L : Array Bool} {V : World}, lateK G cs L V → G V
  | [], _, _, h => h
  | _ :: r, _, _, h => lateK_fact (cs := r) h.2
theorem lateK_cell {cs : List (Nat × Addr × Value)} {i : Nat} (j : Nat) {p : Nat} {A : Addr} {v : Value} {op : Oper} (h : Before md ops (lateK G cs) i W) (hc : cs[j]? = some (p, A, v)) (ho : ops[p]? = some op) (he : (op.after.any fun e => Region.binds md e && e.on == i) = true) : W.cell? A = some v := by
  obtain ⟨L, hcl, hf, hs⟩ := h
  exact lateK_get hs hc (closed_not hcl ho he hf)
theorem lateK_g {cs : List (Nat × Addr × Value)} {i : Nat} (h : Before md ops (lateK G cs) i W) : G W := by
  obtain ⟨L, _, _, hs⟩ := h
  exact lateK_fact hs
theorem lateUp {L : Array Bool} {p : Nat} {X : Prop} (h : L.getD p false = true) : L.getD p false = false → X := fun e => absurd (h.symm.trans e) (by decide)
end
end Go.Proofs.Ytgkhhfojioepgaa
/- The mathematics of the long division by two digits. No program. -/
namespace Go.Proofs.Ytgkhhfojioepgaa
set_option linter.unusedSimpArgs false
set_option linter.unusedVariables false

/-- One digit of the long division: B = 2^32, y = y1*B + y0 normalised, u < y, d < B; (q, r) stands at the head of a round. -/
structure DivInv (y1 y0 u d q r : Nat) : Prop where
  eq : q * y1 + r = u
  ge : (u * 4294967296 + d) / (y1 * 4294967296 + y0) ≤ q
  le : q ≤ 4294967297

theorem div_start (y1 y0 u : Nat) (d : Nat) (h1 : 2147483648 ≤ y1) (h0 : y0 < 4294967296) (hu : u < y1 * 4294967296 + y0) (hd : d < 4294967296) :
    DivInv y1 y0 u d (u / y1) (u - u / y1 * y1) ∧ u - u / y1 * y1 < y1 := by
  have hm := Nat.div_add_mod u y1
  have hlt := Nat.mod_lt u (show 0 < y1 by omega)
  have hc : u / y1 * y1 = y1 * (u / y1) := Nat.mul_comm _ _
  refine ⟨⟨by omega, ?_, ?_⟩, by omega⟩
  · have hy : 0 < y1 * 4294967296 + y0 := by omega
    have hs : (u * 4294967296 + d) / (y1 * 4294967296 + y0) < u / y1 + 1 := by
      rw [Nat.div_lt_iff_lt_mul hy]
      have e : (u / y1 + 1) * (y1 * 4294967296 + y0) = (y1 * (u / y1) + y1) * 4294967296 + (u / y1 + 1) * y0 := by
        rw [Nat.mul_add, Nat.add_mul, Nat.add_mul, Nat.add_mul, ← Nat.mul_assoc, Nat.mul_comm (u / y1) y1]; omega
      rw [e]
      have : 0 ≤ (u / y1 + 1) * y0 := Nat.zero_le _
      omega
    omega
  · have : u / y1 < 4294967298 := by
      rw [Nat.div_lt_iff_lt_mul (by omega)]; omega
    omega

theorem div_true1 {y1 y0 u d q r : Nat} (h : DivInv y1 y0 u d q r) (_h1 : 2147483648 ≤ y1) (hu : u < y1 * 4294967296 + y0) (hd : d < 4294967296)
    (hq : 4294967296 ≤ q) : DivInv y1 y0 u d (q - 1) (r + y1) := by
  obtain ⟨he, hg, hl⟩ := h
  refine ⟨?_, ?_, by omega⟩
  · have : (q - 1) * y1 = q * y1 - y1 := Nat.sub_one_mul q y1
    have : y1 ≤ q * y1 := Nat.le_mul_of_pos_left _ (by omega)
    omega
  · have hs : (u * 4294967296 + d) / (y1 * 4294967296 + y0) < 4294967296 := by
      rw [Nat.div_lt_iff_lt_mul (by omega)]; omega
    omega

theorem div_key {y1 y0 u q r : Nat} (he : q * y1 + r = u) (d : Nat) : q * (y1 * 4294967296 + y0) + (r * 4294967296 + d) = u * 4294967296 + d + q * y0 := by
  have e : q * (y1 * 4294967296 + y0) = q * y1 * 4294967296 + q * y0 := by rw [Nat.mul_add, ← Nat.mul_assoc]
  rw [e]; omega

theorem div_true2 {y1 y0 u d q r : Nat} (h : DivInv y1 y0 u d q r) (h1 : 2147483648 ≤ y1) 
    (hq : 4294967296 * r + d < q * y0) : DivInv y1 y0 u d (q - 1) (r + y1) := by
  obtain ⟨he, hg, hl⟩ := h
  have hpos : 0 < q := by
    rcases Nat.eq_zero_or_pos q with h0 | h0
    · subst h0; omega
    · exact h0
  refine ⟨?_, ?_, by omega⟩
  · have : (q - 1) * y1 = q * y1 - y1 := Nat.sub_one_mul q y1
    have : y1 ≤ q * y1 := Nat.le_mul_of_pos_left _ hpos
    omega
  · have hk := div_key (y0 := y0) he d
    have hs : (u * 4294967296 + d) / (y1 * 4294967296 + y0) < q := by
      rw [Nat.div_lt_iff_lt_mul (by omega)]; omega
    omega

/-- The tests say no, or the rest has outgrown B: q is the digit. -/
theorem div_end {y1 y0 u d q r : Nat} (h : DivInv y1 y0 u d q r) (h1 : 2147483648 ≤ y1) 
    (hq : q * y0 ≤ 4294967296 * r + d) : (u * 4294967296 + d) / (y1 * 4294967296 + y0) = q := by
  obtain ⟨he, hg, hl⟩ := h
  refine Nat.le_antisymm hg ?_
  have hk := div_key (y0 := y0) he d
  rw [Nat.le_div_iff_mul_le (by omega)]; omega

theorem div_break {y0 d q r : Nat} (h0 : y0 < 4294967296) (hq : q ≤ 4294967296) (hr : 4294967296 ≤ r) : q * y0 ≤ 4294967296 * r + d := by
  have : q * y0 ≤ 4294967296 * y0 := Nat.mul_le_mul_right _ hq
  omega

/-- What is left behind a digit. -/
theorem div_rest {y1 y0 u d q : Nat} (h1 : 2147483648 ≤ y1) (hq : (u * 4294967296 + d) / (y1 * 4294967296 + y0) = q) :
    (u * 4294967296 + d) - q * (y1 * 4294967296 + y0) = (u * 4294967296 + d) % (y1 * 4294967296 + y0) ∧ q * (y1 * 4294967296 + y0) ≤ u * 4294967296 + d ∧ (u * 4294967296 + d) % (y1 * 4294967296 + y0) < y1 * 4294967296 + y0 := by
  have hm := Nat.div_add_mod (u * 4294967296 + d) (y1 * 4294967296 + y0)
  have hlt := Nat.mod_lt (u * 4294967296 + d) (show 0 < y1 * 4294967296 + y0 by omega)
  rw [hq] at hm
  have : q * (y1 * 4294967296 + y0) = (y1 * 4294967296 + y0) * q := Nat.mul_comm _ _
  omega

/-- Two digits make the quotient. -/
theorem div_two (y N1 d : Nat) (hy : 0 < y) : (N1 * 4294967296 + d) / y = N1 / y * 4294967296 + (N1 % y * 4294967296 + d) / y ∧ (N1 * 4294967296 + d) % y = (N1 % y * 4294967296 + d) % y := by
  have hm := Nat.div_add_mod N1 y
  have e : N1 * 4294967296 + d = (N1 % y * 4294967296 + d) + y * (N1 / y * 4294967296) := by
    have : y * (N1 / y * 4294967296) = y * (N1 / y) * 4294967296 := by rw [Nat.mul_assoc]
    omega
  constructor
  · rw [e, Nat.add_mul_div_left _ _ hy]; omega
  · rw [e, Nat.add_mul_mod_self_left]

/-- A division shifted on both sides. -/
theorem div_shift (N y s : Nat) (_hy : 0 < y) : N * 2 ^ s / (y * 2 ^ s) = N / y ∧ N * 2 ^ s % (y * 2 ^ s) / 2 ^ s = N % y := by
  have hp : 0 < 2 ^ s := Nat.two_pow_pos s
  constructor
  · exact Nat.mul_div_mul_right _ _ hp
  · rw [Nat.mul_mod_mul_right]; exact Nat.mul_div_cancel _ hp


end Go.Proofs.Ytgkhhfojioepgaa
namespace Go.Proofs.Ytgkhhfojioepgaa
open Go.RowKit
set_option linter.unusedSimpArgs false
set_option linter.unusedVariables false
set_option maxRecDepth 100000 in
set_option maxHeartbeats 3200000 in
theorem div_core (hi lo y s Y y1 y0 H U N d1 d0 q0 p0 r0 Q1 A B C U2 q2 p2 r2 Q2 F QQ A2 B2 C2 R2 RR : Nat) (w : World) (hh : 0 < hi) (hy : hi < y)
    (hs : ∀ w, Calls Try.prog 182 #[.int .u64 y] w fun e w' => e = .returned (.int .i64 s) ∧ w = w') (hs63 : s ≤ 63)
    (eY : IntKind.u64.wrap ((y : Int) * 2 ^ s) = Y) (e1 : (Y : Int) / 4294967296 = y1) (e0 : bits .and .u64 (Y : Int) 4294967295 = y0)
    (eH : IntKind.u64.wrap ((hi : Int) * 2 ^ s) = H) (eN : IntKind.u64.wrap ((lo : Int) * 2 ^ s) = N)
    (eU : bits .or .u64 (H : Int) ((lo : Int) / 2 ^ (64 - s)) = U) (eN1 : (N : Int) / 4294967296 = d1) (eN0 : bits .and .u64 (N : Int) 4294967295 = d0)
    (hyy1 : y1 < 4294967296) (hyy0 : y0 < 4294967296) (hd1 : d1 < 4294967296) (hd0 : d0 < 4294967296)
    (hy1 : 2147483648 ≤ y1) (hUY : U < y1 * 4294967296 + y0)
    (eq0 : IntKind.u64.wrap ((U : Int) / (y1 : Int)) = q0) (ep0 : IntKind.u64.wrap ((q0 : Int) * (y1 : Int)) = p0) (er0 : IntKind.u64.wrap ((U : Int) - (p0 : Int)) = r0)
    (eA : IntKind.u64.wrap ((U : Int) * 4294967296) = A) (eB : IntKind.u64.wrap ((A : Int) + (d1 : Int)) = B) (eC : IntKind.u64.wrap ((Q1 : Int) * (Y : Int)) = C) (eD : IntKind.u64.wrap ((B : Int) - (C : Int)) = U2)
    (eq2 : IntKind.u64.wrap ((U2 : Int) / (y1 : Int)) = q2) (ep2 : IntKind.u64.wrap ((q2 : Int) * (y1 : Int)) = p2) (er2 : IntKind.u64.wrap ((U2 : Int) - (p2 : Int)) = r2)
    (eF : IntKind.u64.wrap ((Q1 : Int) * 4294967296) = F) (eG : IntKind.u64.wrap ((F : Int) + (Q2 : Int)) = QQ)
    (eA2 : IntKind.u64.wrap ((U2 : Int) * 4294967296) = A2) (eB2 : IntKind.u64.wrap ((A2 : Int) + (d0 : Int)) = B2) (eC2 : IntKind.u64.wrap ((Q2 : Int) * (Y : Int)) = C2) (eD2 : IntKind.u64.wrap ((B2 : Int) - (C2 : Int)) = R2) (eE : (R2 : Int) / 2 ^ s = RR)
    (hUY2 : U2 < y1 * 4294967296 + y0) (hi2 : Hid (DivInv y1 y0 U2 d0 q2 r2)) (hr2 : r2 < 4294967296) (HQ2 : Hid ((U2 * 4294967296 + d0) / (y1 * 4294967296 + y0) = Q2))
    (hi1 : Hid (DivInv y1 y0 U d1 q0 r0)) (hr0 : r0 < 4294967296) (HQ1 : Hid ((U * 4294967296 + d1) / (y1 * 4294967296 + y0) = Q1)) :
    Calls Try.prog 154 #[.int .u64 hi, .int .u64 lo, .int .u64 y] w fun e w' => e = .returned (.tuple #[.int .u64 QQ, .int .u64 RR]) ∧ w = w' := by
  have h0 : ((y : Int) == 0) = false := by simp; omega
  have h1 : ((hi : Int) == 0) = false := by simp; omega
  have HS := Lib.hid hs; clear hs
  go_enter Try.func154, Try.ntmps154
  have hy1' : ¬ (y1 = 0) := by omega
  go_upto_block 0 with (go_at_call 182; refine (HS.out _).mono ?_; rintro e w1 ⟨rfl, rfl⟩)
  clear eY e1 e0 eH eN eU eN1 eN0
  go_cut [15] (fun qv wx => (qv = .int .u64 Q1) ∧ w = wx)
  case first =>
    go_wp2_with fail
    go_loop [15, 16] (fun qv rv => ∃ q r : Nat, qv = .int .u64 q ∧ rv = .int .u64 r ∧ Hid (DivInv y1 y0 U d1 q r) ∧ q ≤ 4294967297 ∧ r < 4294967296) (fun qv _ => (intOf qv).toNat)
    case atStart => exact ⟨q0, r0, rfl, rfl, hi1.out, by have := (hi1.out).le; omega, hr0⟩
    case round =>
      obtain ⟨q, r, rfl, rfl, hinv, hq9n, hr9n⟩ := hrel
      have hq9 : (q : Int) ≤ 4294967297 := by omega
      have hr9 : (r : Int) < 4294967296 := by omega
      clear hq9n hr9n
      obtain ⟨P, hP⟩ : ∃ P, P = q * y0 := ⟨_, rfl⟩
      have hPb : P < 18446744073709551616 := by
        rw [hP]
        have : q * y0 ≤ 4294967297 * y0 := Nat.mul_le_mul_right _ (by omega)
        omega
      have eP : IntKind.u64.wrap ((q : Int) * (y0 : Int)) = (P : Int) := by
        rw [hP, IntKind.wrap_u64, ← Int.natCast_mul]
        rw [hP] at hPb
        omega
      have HP := Lib.hid hP; clear hP hPb
      by_cases hB : (4294967296 : Int) ≤ (q : Int)
      · have hnext := div_true1 hinv.out hy1 hUY hd1 (by omega)
        have HN := Lib.hid hnext; clear hnext
        by_cases hb : (4294967296 : Int) ≤ (r : Int) + (y1 : Int)
        · have hend : (U * 4294967296 + d1) / (y1 * 4294967296 + y0) = q - 1 := div_end HN.out hy1 (div_break hyy0 (by omega) (by omega))
          have HE := Lib.hid hend; clear hend
          go_wp2_with fail
          go_meet
          exact ⟨by rw [← HQ1.out, HE.out]; exact congrArg _ (by omega), rfl⟩
        · go_wp2
          go_round
          case rel => exact ⟨q - 1, r + y1, by go_num, by go_num, HN.out, by omega, by omega⟩
          case measure => simp [intOf]; omega
      · by_cases hT : 4294967296 * (r : Int) + (d1 : Int) < (P : Int)
        · have hnext := div_true2 hinv.out hy1 (by rw [← HP.out]; omega)
          have hq1 : 1 ≤ q := by
            rcases Nat.eq_zero_or_pos q with h0 | h0
            · have := HP.out; rw [h0, Nat.zero_mul] at this; omega
            · exact h0
          have HN := Lib.hid hnext; clear hnext
          by_cases hb : (4294967296 : Int) ≤ (r : Int) + (y1 : Int)
          · have hend : (U * 4294967296 + d1) / (y1 * 4294967296 + y0) = q - 1 := div_end HN.out hy1 (div_break hyy0 (by omega) (by omega))
            have HE := Lib.hid hend; clear hend
            go_wp2_with fail
            go_meet
            exact ⟨by rw [← HQ1.out, HE.out]; exact congrArg _ (by omega), rfl⟩
          · go_wp2
            go_round
            case rel => exact ⟨q - 1, r + y1, by go_num, by go_num, HN.out, by omega, by omega⟩
            case measure => simp [intOf]; omega
        · have hend : (U * 4294967296 + d1) / (y1 * 4294967296 + y0) = q := div_end hinv.out hy1 (by rw [← HP.out]; omega)
          have HE := Lib.hid hend; clear hend
          go_wp2_with fail
          go_meet
          exact ⟨by rw [← HQ1.out, HE.out], rfl⟩
  case rest =>
    obtain ⟨rfl, rfl⟩ := hcut
    go_upto_block 2 with fail
    go_cut [18] (fun qv wy => (qv = .int .u64 Q2) ∧ w = wy)
    case first =>
      go_wp2_with fail
      go_loop [18, 16] (fun qv rv => ∃ q r : Nat, qv = .int .u64 q ∧ rv = .int .u64 r ∧ Hid (DivInv y1 y0 U2 d0 q r) ∧ q ≤ 4294967297 ∧ r < 4294967296) (fun qv _ => (intOf qv).toNat)
      case atStart => exact ⟨q2, r2, rfl, rfl, hi2.out, by have := (hi2.out).le; omega, hr2⟩
      case round =>
        obtain ⟨q, r, rfl, rfl, hinv, hq9n, hr9n⟩ := hrel
        have hq9 : (q : Int) ≤ 4294967297 := by omega
        have hr9 : (r : Int) < 4294967296 := by omega
        clear hq9n hr9n
        obtain ⟨P, hP⟩ : ∃ P, P = q * y0 := ⟨_, rfl⟩
        have hPb : P < 18446744073709551616 := by
          rw [hP]
          have : q * y0 ≤ 4294967297 * y0 := Nat.mul_le_mul_right _ (by omega)
          omega
        have eP : IntKind.u64.wrap ((q : Int) * (y0 : Int)) = (P : Int) := by
          rw [hP, IntKind.wrap_u64, ← Int.natCast_mul]
          rw [hP] at hPb
          omega
        have HP := Lib.hid hP; clear hP hPb
        by_cases hB : (4294967296 : Int) ≤ (q : Int)
        · have hnext := div_true1 hinv.out hy1 hUY2 hd0 (by omega)
          have HN := Lib.hid hnext; clear hnext
          by_cases hb : (4294967296 : Int) ≤ (r : Int) + (y1 : Int)
          · have hend : (U2 * 4294967296 + d0) / (y1 * 4294967296 + y0) = q - 1 := div_end HN.out hy1 (div_break hyy0 (by omega) (by omega))
            have HE := Lib.hid hend; clear hend
            go_wp2_with fail
            go_meet
            exact ⟨by rw [← HQ2.out, HE.out]; exact congrArg _ (by omega), rfl⟩
          · go_wp2
            go_round
            case rel => exact ⟨q - 1, r + y1, by go_num, by go_num, HN.out, by omega, by omega⟩
            case measure => simp [intOf]; omega
        · by_cases hT : 4294967296 * (r : Int) + (d0 : Int) < (P : Int)
          · have hnext := div_true2 hinv.out hy1 (by rw [← HP.out]; omega)
            have hq1 : 1 ≤ q := by
              rcases Nat.eq_zero_or_pos q with h0 | h0
              · have := HP.out; rw [h0, Nat.zero_mul] at this; omega
              · exact h0
            have HN := Lib.hid hnext; clear hnext
            by_cases hb : (4294967296 : Int) ≤ (r : Int) + (y1 : Int)
            · have hend : (U2 * 4294967296 + d0) / (y1 * 4294967296 + y0) = q - 1 := div_end HN.out hy1 (div_break hyy0 (by omega) (by omega))
              have HE := Lib.hid hend; clear hend
              go_wp2_with fail
              go_meet
              exact ⟨by rw [← HQ2.out, HE.out]; exact congrArg _ (by omega), rfl⟩
            · go_wp2
              go_round
              case rel => exact ⟨q - 1, r + y1, by go_num, by go_num, HN.out, by omega, by omega⟩
              case measure => simp [intOf]; omega
          · have hend : (U2 * 4294967296 + d0) / (y1 * 4294967296 + y0) = q := div_end hinv.out hy1 (by rw [← HP.out]; omega)
            have HE := Lib.hid hend; clear hend
            go_wp2_with fail
            go_meet
            exact ⟨by rw [← HQ2.out, HE.out], rfl⟩
    case rest =>
      obtain ⟨rfl, rfl⟩ := hcut
      go_wp2
      go_ret2
      exact ⟨rfl, rfl⟩
end Go.Proofs.Ytgkhhfojioepgaa
/- The plain reading of texts: what a taker takes, what numbers, pairs, digits, words and sixties are read, said of the list of bytes that is left. No program. -/
namespace Go.Proofs.Ytgkhhfojioepgaa
set_option linter.unusedSimpArgs false
set_option linter.unusedVariables false

/-- The next byte, if it lies from lo to hi. -/
def tkV (lo hi : Int) : List Nat → Option Nat
  | [] => none
  | c :: _ => if lo ≤ (c : Int) ∧ (c : Int) ≤ hi then some c else none

/-- What is read: the value, whether all was there, how many bytes were taken. -/
structure Got where
  val : Int
  ok : Bool
  used : Nat

/-- More digits of a number that is to stay at most 'most'. -/
def numMore (most : Int) : List Nat → Int → Int × Nat
  | [], n => (n, 0)
  | c :: r, n => if 0 < n ∧ 10 * n ≤ most ∧ 48 ≤ (c : Int) ∧ (c : Int) ≤ 48 + min (most - 10 * n) 9 then ((numMore most r (10 * n + ((c : Int) - 48))).1, (numMore most r (10 * n + ((c : Int) - 48))).2 + 1) else (n, 0)

def numV (least most : Int) (R : List Nat) : Got :=
  match tkV (48 + least) 57 R with
  | none => ⟨0, false, 0⟩
  | some c => ⟨(numMore most R.tail ((c : Int) - 48)).1, true, (numMore most R.tail ((c : Int) - 48)).2 + 1⟩

def wordV : List Nat → List Nat → Bool × Nat
  | [], _ => (true, 0)
  | _ :: _, [] => (false, 0)
  | c :: w, d :: r => if d = c then ((wordV w r).1, (wordV w r).2 + 1) else (false, 0)

def pairV (most : Int) (R : List Nat) : Got :=
  match tkV 48 (48 + most / 10) R with
  | none => ⟨0, false, 0⟩
  | some t =>
    match tkV 48 (if (t : Int) = 48 + most / 10 then 48 + most % 10 else 57) R.tail with
    | none => ⟨0, false, 1⟩
    | some o => ⟨10 * ((t : Int) - 48) + ((o : Int) - 48), true, 2⟩

/-- The rounds of a time with colons: so many pairs are to come; whether all was there so far; so many seconds; so many bytes taken. -/
def sixtyV : Nat → Bool → List Nat → Int → Nat → Got
  | 0, ok, _, n, u => ⟨n, ok, u⟩
  | _ + 1, false, _, _, u => ⟨0, false, u⟩
  | p + 1, true, R, n, u =>
    if (wordV [58] R).1 then sixtyV p (pairV 59 (R.drop (wordV [58] R).2)).ok (R.drop ((wordV [58] R).2 + (pairV 59 (R.drop (wordV [58] R).2)).used)) (60 * n + (pairV 59 (R.drop (wordV [58] R).2)).val) (u + (wordV [58] R).2 + (pairV 59 (R.drop (wordV [58] R).2)).used)
    else ⟨0, false, u + (wordV [58] R).2⟩

def inSixtiesV (least most : Int) (pairs : Nat) (R : List Nat) : Got :=
  sixtyV pairs (numV least most R).ok (R.drop (numV least most R).used) (numV least most R).val (numV least most R).used

def letterAt (j : Nat) : Nat := if j = 0 then 104 else if j = 1 then 109 else 115
def sizeAt (j : Nat) : Int := if j = 0 then 3600 else if j = 1 then 60 else 1

/-- The first letter from the j-th one on that stands here; 3: none. -/
def findV (j : Nat) (R : List Nat) : Nat :=
  if j < 3 then (if (wordV [letterAt j] R).1 then j else findV (j + 1) R) else j
termination_by 3 - j

theorem findV_ge (j : Nat) (R : List Nat) : j ≤ findV j R := by
  unfold findV; split
  · split
    · omega
    · have := findV_ge (j + 1) R; omega
  · omega
termination_by 3 - j

/-- Numbers with letters, from the j-th letter on. -/
def partsV (j : Nat) (R : List Nat) (sec : Int) (u : Nat) : Got :=
  if j < 3 then
    if (numV 0 9999999 R).ok then
      if findV j (R.drop (numV 0 9999999 R).used) < 3 then
        partsV (findV j (R.drop (numV 0 9999999 R).used) + 1) (R.drop ((numV 0 9999999 R).used + 1)) (sec + (numV 0 9999999 R).val * sizeAt (findV j (R.drop (numV 0 9999999 R).used))) (u + (numV 0 9999999 R).used + 1)
      else ⟨0, false, u + (numV 0 9999999 R).used⟩
    else ⟨sec, decide (0 < j), u⟩
  else ⟨sec, true, u⟩
termination_by 3 - j
decreasing_by have := findV_ge j (R.drop (numV 0 9999999 R).used); omega

theorem tkV_bd {lo hi : Int} {R : List Nat} {c : Nat} (h : tkV lo hi R = some c) : lo ≤ (c : Int) ∧ (c : Int) ≤ hi ∧ R = c :: R.tail := by
  cases R with
  | nil => simp [tkV] at h
  | cons d r =>
    simp only [tkV] at h
    split at h
    · simp at h; subst h; simp_all
    · simp at h

theorem numMore_le (most : Int) : ∀ (R : List Nat) (n : Int), (numMore most R n).2 ≤ R.length
  | [], n => by simp [numMore]
  | c :: r, n => by
    unfold numMore; split
    · have := numMore_le most r (10 * n + ((c : Int) - 48)); simp; omega
    · simp

theorem numMore_bd (most : Int) : ∀ (R : List Nat) (n : Int), 0 ≤ n → n ≤ most → 0 ≤ (numMore most R n).1 ∧ (numMore most R n).1 ≤ most
  | [], n, h0, h1 => by simp [numMore]; omega
  | c :: r, n, h0, h1 => by
    unfold numMore; split
    · exact numMore_bd most r (10 * n + ((c : Int) - 48)) (by omega) (by omega)
    · exact ⟨h0, h1⟩

theorem numV_le (least most : Int) (R : List Nat) : (numV least most R).used ≤ R.length := by
  unfold numV; split
  · simp
  · rename_i c h
    have := (tkV_bd h).2.2
    have h2 := numMore_le most R.tail ((c : Int) - 48)
    rw [this]; simp; simpa using h2

theorem numV_bd (least most : Int) (R : List Nat) (h0 : 0 ≤ least) (h9 : 9 ≤ most) : 0 ≤ (numV least most R).val ∧ (numV least most R).val ≤ most := by
  unfold numV; split
  · simp; omega
  · rename_i c h
    have := tkV_bd h
    exact numMore_bd most R.tail _ (by omega) (by omega)

theorem wordV_le : ∀ (w R : List Nat), (wordV w R).2 ≤ R.length
  | [], R => by simp [wordV]
  | _ :: _, [] => by simp [wordV]
  | c :: w, d :: r => by
    unfold wordV; split
    · have := wordV_le w r; simp; omega
    · simp

theorem pairV_le (most : Int) (R : List Nat) : (pairV most R).used ≤ R.length := by
  unfold pairV; split
  · simp
  · rename_i t h
    have h1 := (tkV_bd h).2.2
    split
    · rw [h1]; simp
    · rename_i o h'
      have h2 := (tkV_bd h').2.2
      rw [h1, h2]; simp

theorem pairV_bd (most : Int) (R : List Nat) (h0 : 0 ≤ most) (h9 : most ≤ 99) : 0 ≤ (pairV most R).val ∧ (pairV most R).val ≤ most := by
  unfold pairV; split
  · simp; omega
  · rename_i t h
    have h1 := tkV_bd h
    split
    · simp; omega
    · rename_i o h'
      have h2 := tkV_bd h'
      simp only
      split at h2 <;> omega

theorem wordV_no {c : Nat} {w R : List Nat} (h : tkV c c R = none) : wordV (c :: w) R = (false, 0) := by
  cases R with
  | nil => rfl
  | cons d r =>
    simp only [tkV] at h
    split at h
    · simp at h
    · unfold wordV; rw [if_neg (by omega)]
theorem wordV_yes {c x : Nat} {w R : List Nat} (h : tkV c c R = some x) : wordV (c :: w) R = ((wordV w R.tail).1, (wordV w R.tail).2 + 1) := by
  cases R with
  | nil => simp [tkV] at h
  | cons d r =>
    simp only [tkV] at h
    split at h
    · rw [wordV, if_pos (by omega)]; rfl
    · simp at h
theorem numMore_no {most n : Int} {R : List Nat} (h : 0 < n → 10 * n ≤ most → tkV 48 (48 + min (most - 10 * n) 9) R = none) : numMore most R n = (n, 0) := by
  cases R with
  | nil => rfl
  | cons c r =>
    unfold numMore; rw [if_neg]
    rintro ⟨h1, h2, h3, h4⟩
    have := h h1 h2
    simp only [tkV] at this
    rw [if_pos ⟨h3, h4⟩] at this; simp at this
theorem numMore_yes {most n : Int} {R : List Nat} {c : Nat} (h1 : 0 < n) (h2 : 10 * n ≤ most) (h : tkV 48 (48 + min (most - 10 * n) 9) R = some c) :
    numMore most R n = ((numMore most R.tail (10 * n + ((c : Int) - 48))).1, (numMore most R.tail (10 * n + ((c : Int) - 48))).2 + 1) := by
  cases R with
  | nil => simp [tkV] at h
  | cons d r =>
    simp only [tkV] at h
    split at h
    · rename_i h3; simp at h; subst h
      rw [numMore, if_pos ⟨h1, h2, h3.1, h3.2⟩]; rfl
    · simp at h

theorem findV_yes {j : Nat} {R : List Nat} (hj : j < 3) (h : (wordV [letterAt j] R).1 = true) : findV j R = j := by rw [findV, if_pos hj, if_pos h]
theorem findV_no {j : Nat} {R : List Nat} (hj : j < 3) (h : (wordV [letterAt j] R).1 = false) : findV j R = findV (j + 1) R := by rw [findV, if_pos hj, if_neg (by simp [h])]
theorem findV_end (R : List Nat) : findV 3 R = 3 := by rw [findV, if_neg (by omega)]
theorem word1_no {c : Nat} {R : List Nat} (h : (wordV [c] R).1 = false) : wordV [c] R = (false, 0) := by
  cases R with
  | nil => rfl
  | cons d r =>
    unfold wordV at h ⊢
    split
    · rename_i e; rw [if_pos e] at h; simp [wordV] at h
    · rfl
theorem word1_yes {c : Nat} {R : List Nat} (h : (wordV [c] R).1 = true) : wordV [c] R = (true, 1) := by
  cases R with
  | nil => simp [wordV] at h
  | cons d r =>
    unfold wordV at h ⊢
    split
    · simp [wordV]
    · rename_i e; rw [if_neg e] at h; simp at h
theorem numV_no {least most : Int} {R : List Nat} (h : (numV least most R).ok = false) : (numV least most R).used = 0 := by
  unfold numV at h ⊢; split
  · rfl
  · rename_i h'; rw [h'] at h; simp at h

end Go.Proofs.Ytgkhhfojioepgaa
namespace Go.Proofs.Ytgkhhfojioepgaa
open Go.RowKit
set_option linter.unusedSimpArgs false
set_option linter.unusedVariables false

theorem ret_uu {a b c d : Int} (h : a = b) (h' : c = d) : Ending.returned (.tuple #[.int .u64 a, .int .u64 c]) = .returned (.tuple #[.int .u64 b, .int .u64 d]) := by rw [h, h']
theorem ret_iii {k k' k'' : IntKind} {a b c d e f : Int} (h : a = b) (h' : c = d) (h'' : e = f) : Ending.returned (.tuple #[.int k a, .int k' c, .int k'' e]) = .returned (.tuple #[.int k b, .int k' d, .int k'' f]) := by rw [h, h', h'']

/-- The place of a taker lies in block a, its text in block b. -/
structure At (w : World) (a b : Nat) (s : ByteArray) (k : Nat) : Prop where
  hA : w.heap[a]? = some (.cells #[.int .i64 k] 3 (0, 0))
  hB : w.heap[b]? = some (.cells #[.string s] 9 (0, 0))
  sz : s.size ≤ 140737488351232
  le : k ≤ s.size

structure Moved (w w' : World) (a b : Nat) (s : ByteArray) (k : Nat) : Prop where
  pos : At w' a b s k
  g : w.grownBy w' (some a)

/-- The bytes that are left from a place on. -/
def rem (s : ByteArray) (k : Nat) : List Nat := (s.data.toList.drop k).map UInt8.toNat

theorem grown_drew (w : World) (r : Option Nat) : w.grownBy w.drew r := ⟨rfl, rfl, rfl, Nat.le_refl _, fun _ _ _ => rfl⟩

theorem At.lt {w : World} {a b : Nat} {s : ByteArray} {k : Nat} (h : At w a b s k) : a < w.heap.size ∧ b < w.heap.size ∧ a ≠ b :=
  ⟨lt_of_block h.hA, lt_of_block h.hB, fun e => by have h1 := h.hA; have h2 := h.hB; rw [e, h2] at h1; simp at h1⟩
theorem At.refl {w : World} {a b : Nat} {s : ByteArray} {k : Nat} (h : At w a b s k) : Moved w w a b s k := ⟨h, grown_refl _ _⟩
theorem At.drewN {w : World} {a b : Nat} {s : ByteArray} {k : Nat} (h : At w a b s k) (n : Nat) : At (w.drewN n) a b s k := ⟨h.hA, h.hB, h.sz, h.le⟩
theorem Moved.drew {w w' : World} {a b : Nat} {s : ByteArray} {k : Nat} (h : Moved w w' a b s k) : Moved w w'.drew a b s k := ⟨⟨h.pos.hA, h.pos.hB, h.pos.sz, h.pos.le⟩, h.g.os, h.g.tape, h.g.output, h.g.size, h.g.block⟩
theorem Moved.drewN {w w' : World} {a b : Nat} {s : ByteArray} {k : Nat} (h : Moved w w' a b s k) (n : Nat) : Moved w (w'.drewN n) a b s k := ⟨⟨h.pos.hA, h.pos.hB, h.pos.sz, h.pos.le⟩, h.g.os, h.g.tape, h.g.output, h.g.size, h.g.block⟩
theorem At.drew {w : World} {a b : Nat} {s : ByteArray} {k : Nat} (h : At w a b s k) : At w.drew a b s k := ⟨h.hA, h.hB, h.sz, h.le⟩
theorem Moved.eq {w w' : World} {a b : Nat} {s : ByteArray} {k k' : Nat} (h : Moved w w' a b s k) (e : k = k') : Moved w w' a b s k' := e ▸ h
theorem Moved.trans {w1 w2 w3 : World} {a b : Nat} {s : ByteArray} {k k' : Nat} (h : Moved w1 w2 a b s k) (h' : Moved w2 w3 a b s k') : Moved w1 w3 a b s k' := ⟨h'.pos, grown_trans h.g h'.g⟩
theorem At.step {w : World} {a b : Nat} {s : ByteArray} {k : Nat} (h : At w a b s k) (hk : k < s.size) : Moved w (w.setCell ⟨a, 0, none⟩ (.int .i64 (k + 1 : Nat))) a b s (k + 1) := by
  have hl := h.lt
  refine ⟨⟨one_setCell h.hA, ?_, h.sz, by omega⟩, rfl, rfl, rfl, by simp [World.setCell], fun j _ hr => Below.heap_setCell _ _ _ _ (fun e => hr (by rw [e]))⟩
  rw [Below.heap_setCell _ _ _ _ (fun e => hl.2.2 e.symm)]; exact h.hB
/-- A new block leaves the place. -/
theorem At.grown {w w' : World} {a b : Nat} {s : ByteArray} {k : Nat} (h : At w a b s k) (g : w.grownBy w' none) : Moved w w' a b s k :=
  ⟨⟨by rw [g.block a h.lt.1 (by simp)]; exact h.hA, by rw [g.block b h.lt.2.1 (by simp)]; exact h.hB, h.sz, h.le⟩, g.os, g.tape, g.output, g.size, fun j hj _ => g.block j hj (by simp)⟩

theorem Moved.block {w w' : World} {a b : Nat} {s : ByteArray} {k z : Nat} {o : Obj} (h : Moved w w' a b s k) (hz : w.heap[z]? = some o) (ne : z ≠ a) : w'.heap[z]? = some o := by
  rw [h.g.block z (lt_of_block hz) (fun e => ne (by simpa using e))]; exact hz
/-- Draws on the way. -/
theorem Moved.from {w w' w1 : World} {a b : Nat} {s : ByteArray} {k k' : Nat} (h : Moved w w' a b s k) (h' : Moved w'.drew w1 a b s k') : Moved w w1 a b s k' := h.drew.trans h'

theorem rem_nil {s : ByteArray} {k : Nat} (h : s.size ≤ k) : rem s k = [] := by
  unfold rem; rw [List.drop_eq_nil_of_le (by simpa using h)]; rfl
theorem rem_cons {s : ByteArray} {k : Nat} (h : k < s.size) : rem s k = s[k].toNat :: rem s (k + 1) := by
  unfold rem
  have h' : k < s.data.toList.length := by simpa using h
  rw [List.drop_eq_getElem_cons h']; rfl
theorem rem_tail (s : ByteArray) (k : Nat) : (rem s k).tail = rem s (k + 1) := by
  unfold rem; rw [← List.map_tail, List.tail_drop]
theorem rem_drop (s : ByteArray) (k n : Nat) : (rem s k).drop n = rem s (k + n) := by
  unfold rem; rw [← List.map_drop, List.drop_drop]
theorem rem_len (s : ByteArray) (k : Nat) : (rem s k).length = s.size - k := by unfold rem; simp
end Go.Proofs.Ytgkhhfojioepgaa
namespace Go.Proofs.Ytgkhhfojioepgaa
open Go.RowKit
set_option linter.unusedSimpArgs false
set_option linter.unusedVariables false

theorem u64_wrap (n m : Nat) (h : n % 18446744073709551616 = m) : IntKind.u64.wrap (n : Int) = (m : Int) := by rw [IntKind.wrap_u64]; omega
theorem u64_self (n : Nat) (h : n < 18446744073709551616) : IntKind.u64.wrap (n : Int) = (n : Int) := u64_wrap n n (Nat.mod_eq_of_lt h)
theorem u64_sub (a b c : Nat) (h : (c + b) % 18446744073709551616 = a % 18446744073709551616) (hc : c < 18446744073709551616) : IntKind.u64.wrap ((a : Int) - (b : Int)) = (c : Int) := by rw [IntKind.wrap_u64]; omega

/-- What the shifts are. -/
theorem shifted (y L : Nat) (h1 : 2 ^ (L - 1) ≤ y) (h2 : y < 2 ^ L) (hL : 1 ≤ L) (h64 : L ≤ 64) :
    9223372036854775808 ≤ y * 2 ^ (64 - L) ∧ y * 2 ^ (64 - L) < 18446744073709551616 := by
  have e1 : (2 : Nat) ^ (L - 1) * 2 ^ (64 - L) = 9223372036854775808 := by rw [← Nat.pow_add, show L - 1 + (64 - L) = 63 by omega]
  have e2 : (2 : Nat) ^ L * 2 ^ (64 - L) = 18446744073709551616 := by rw [← Nat.pow_add, show L + (64 - L) = 64 by omega]
  have hp : 0 < 2 ^ (64 - L) := Nat.two_pow_pos _
  constructor
  · rw [← e1]; exact Nat.mul_le_mul_right _ h1
  · rw [← e2]; exact Nat.mul_lt_mul_of_pos_right h2 hp

theorem parted (lo L : Nat) (hl : lo < 18446744073709551616) (hL : 1 ≤ L) (h64 : L ≤ 64) :
    lo / 2 ^ L < 2 ^ (64 - L) ∧ lo * 2 ^ (64 - L) = lo / 2 ^ L * 18446744073709551616 + lo * 2 ^ (64 - L) % 18446744073709551616 := by
  have e2 : (2 : Nat) ^ (64 - L) * 2 ^ L = 18446744073709551616 := by rw [← Nat.pow_add, show 64 - L + L = 64 by omega]
  have hp : 0 < 2 ^ (64 - L) := Nat.two_pow_pos _
  constructor
  · rw [Nat.div_lt_iff_lt_mul (Nat.two_pow_pos _), e2]; exact hl
  · have : lo * 2 ^ (64 - L) / 18446744073709551616 = lo / 2 ^ L := by
      rw [← e2, Nat.mul_comm (2 ^ (64 - L)) (2 ^ L)]; exact Nat.mul_div_mul_right _ _ hp
    have hm := Nat.div_add_mod (lo * 2 ^ (64 - L)) 18446744073709551616
    rw [this] at hm
    omega

theorem or_add (a t s : Nat) (ha : a * 2 ^ s < 18446744073709551616) (ht : t < 2 ^ s) (hs : s ≤ 63) : bits .or .u64 ((a * 2 ^ s : Nat) : Int) (t : Int) = ((a * 2 ^ s + t : Nat) : Int) := by
  have hb : t < 18446744073709551616 := Nat.lt_of_lt_of_le ht (by
    have : (2 : Nat) ^ s ≤ 2 ^ 63 := Nat.pow_le_pow_right (by decide) hs
    omega)
  rw [u64_or_nat _ _ ha hb]
  rw [nat_join s _ _ (Nat.mul_mod_left _ _) ht]

theorem mask32 (n : Nat) (h : n < 18446744073709551616) : bits .and .u64 (n : Int) 4294967295 = ((n % 4294967296 : Nat) : Int) := by
  have := u64_and_nat n 4294967295 h (by decide)
  rw [nat_mask32] at this
  exact this
theorem cast_two_pow_mul (a s : Nat) : ((a * 2 ^ s : Nat) : Int) = (a : Int) * 2 ^ s := by push_cast; rfl
theorem cast_div_two_pow (a s : Nat) : (a : Int) / 2 ^ s = ((a / 2 ^ s : Nat) : Int) := by push_cast; rfl

theorem digits_of (Q1 U d1 Y : Nat) (hY : Y < 18446744073709551616) (hU : U < Y) (hd : d1 < 4294967296) (hq : (U * 4294967296 + d1) / Y = Q1) :
    Q1 < 4294967296 ∧ U * 4294967296 + d1 = Q1 * Y + (U * 4294967296 + d1) % Y ∧ (U * 4294967296 + d1) % Y < Y := by
  have hm := Nat.div_add_mod (U * 4294967296 + d1) Y
  have hl := Nat.mod_lt (U * 4294967296 + d1) (show 0 < Y by omega)
  rw [hq, Nat.mul_comm] at hm
  refine ⟨?_, by omega, hl⟩
  rw [← hq, Nat.div_lt_iff_lt_mul (by omega)]
  omega

set_option maxHeartbeats 800000 in
theorem div64_any (hi lo y : Nat) (w : World) (hy : hi < y) (hy2 : y < 18446744073709551616) (hl : lo < 18446744073709551616) :
    Calls Try.prog 154 #[.int .u64 hi, .int .u64 lo, .int .u64 y] w fun e w' => e = .returned (.tuple #[.int .u64 ((hi * 18446744073709551616 + lo) / y : Nat), .int .u64 ((hi * 18446744073709551616 + lo) % y : Nat)]) ∧ w.grownBy w' none := by
  rcases Nat.eq_zero_or_pos hi with h0 | hpos
  · subst h0
    have hb : ((y : Int) == 0) = false := by simp; omega
    have hq : (lo / y) % 18446744073709551616 = lo / y := Nat.mod_eq_of_lt (Nat.lt_of_le_of_lt (Nat.div_le_self _ _) hl)
    have eq : IntKind.u64.wrap ((lo : Int) / (y : Int)) = ((lo / y : Nat) : Int) := by rw [← Int.natCast_ediv]; exact u64_wrap _ _ hq
    clear hq
    go_enter Try.func154, Try.ntmps154
    go_wp2
    go_quiet (fail)
    go_wp2
    go_ret2
    refine ⟨ret_uu ?_ ?_, grown_drewN _ _ _⟩
    · simp
    · simp
  · obtain ⟨L, hLd⟩ : ∃ L, L = Lib.bitLen y := ⟨_, rfl⟩
    have hbd := Lib.bitLenAux_bounds 64 y hy2 (by omega)
    have hL64 : L ≤ 64 := by rw [hLd]; exact Lib.bitLen_le y 64 (by omega) (by omega)
    rw [show Lib.bitLenAux 64 y = L from hLd.symm] at hbd
    obtain ⟨hL1, hlo2, hhi2⟩ := hbd
    obtain ⟨hY1, hY2⟩ := shifted y L hlo2 hhi2 hL1 hL64
    obtain ⟨hT, hN⟩ := parted lo L hl hL1 hL64
    have hlz : ∀ w, Calls Try.prog 182 #[.int .u64 y] w fun e w' => e = .returned (.int .i64 ((64 - L : Nat) : Int)) ∧ w = w' := by
      intro w
      refine (Try.bits_LeadingZeros64 y w (by omega) (by omega)).mono ?_
      rintro e w' ⟨h1, h2⟩
      refine ⟨?_, h2.symm⟩
      rw [h1, Int.toNat_natCast, ← hLd]
      exact ret_int (by omega)
    obtain ⟨s, hs⟩ : ∃ s, s = 64 - L := ⟨_, rfl⟩
    have hsL : 64 - s = L := by omega
    rw [← hs] at hY1 hY2 hT hN hlz
    have hp : 0 < 2 ^ s := Nat.two_pow_pos _
    obtain ⟨Y, hY⟩ : ∃ Y, Y = y * 2 ^ s := ⟨_, rfl⟩
    obtain ⟨T, hTd⟩ : ∃ T, T = lo / 2 ^ L := ⟨_, rfl⟩
    obtain ⟨N, hNd⟩ : ∃ N, N = lo * 2 ^ s % 18446744073709551616 := ⟨_, rfl⟩
    have hU : hi * 2 ^ s + T < Y := by
      have : (hi + 1) * 2 ^ s ≤ y * 2 ^ s := Nat.mul_le_mul_right _ hy
      rw [Nat.add_mul] at this
      omega
    have hM : (hi * 18446744073709551616 + lo) * 2 ^ s = (hi * 2 ^ s + T) * 18446744073709551616 + N := by
      rw [Nat.add_mul, Nat.mul_right_comm, hN, ← hTd, ← hNd]; omega
    have hN64 : N < 18446744073709551616 := by rw [hNd]; exact Nat.mod_lt _ (by decide)
    have hH : hi * 2 ^ s < 18446744073709551616 := by omega
    have hor := or_add hi T s hH (by rw [hTd]; exact hT) (by omega)
    have hdiv := div_shift (hi * 18446744073709551616 + lo) y s (by omega)
    rw [hM, ← hY] at hdiv
    obtain ⟨U, hUd⟩ : ∃ U, U = hi * 2 ^ s + T := ⟨_, rfl⟩
    rw [← hUd] at hU hM hor hdiv
    rw [← hY] at hY1 hY2
    have hsp : U * 18446744073709551616 + N = (U * 4294967296 + N / 4294967296) * 4294967296 + N % 4294967296 := by omega
    obtain ⟨g1, g2, g3⟩ := digits_of _ U (N / 4294967296) Y hY2 hU (by omega) rfl
    obtain ⟨Q1, hQ1⟩ : ∃ Q, Q = (U * 4294967296 + N / 4294967296) / Y := ⟨_, rfl⟩
    obtain ⟨U2, hU2⟩ : ∃ Q, Q = (U * 4294967296 + N / 4294967296) % Y := ⟨_, rfl⟩
    rw [← hQ1] at g1 g2
    rw [← hU2] at g2 g3
    obtain ⟨k1, k2, k3⟩ := digits_of _ U2 (N % 4294967296) Y hY2 g3 (by omega) rfl
    obtain ⟨Q2, hQ2⟩ : ∃ Q, Q = (U2 * 4294967296 + N % 4294967296) / Y := ⟨_, rfl⟩
    obtain ⟨R2, hR2⟩ : ∃ Q, Q = (U2 * 4294967296 + N % 4294967296) % Y := ⟨_, rfl⟩
    rw [← hQ2] at k1 k2
    rw [← hR2] at k2 k3
    have htwo := div_two Y (U * 4294967296 + N / 4294967296) (N % 4294967296) (by omega)
    rw [← hsp, ← hQ1, ← hU2, ← hQ2, ← hR2] at htwo
    rw [htwo.1, htwo.2] at hdiv
    have hys : Y = Y / 4294967296 * 4294967296 + Y % 4294967296 := by omega
    have hst1 := div_start (Y / 4294967296) (Y % 4294967296) U (N / 4294967296) (by omega) (by omega) (by omega) (by omega)
    have hst2 := div_start (Y / 4294967296) (Y % 4294967296) U2 (N % 4294967296) (by omega) (by omega) (by omega) (by omega)
    have m1 : U / (Y / 4294967296) * (Y / 4294967296) ≤ U := Nat.div_mul_le_self _ _
    have m2 : U2 / (Y / 4294967296) * (Y / 4294967296) ≤ U2 := Nat.div_mul_le_self _ _
    have n1 : U / (Y / 4294967296) ≤ U := Nat.div_le_self _ _
    have n2 : U2 / (Y / 4294967296) ≤ U2 := Nat.div_le_self _ _
    rw [← hdiv.1, ← hdiv.2]
    refine (div_core hi lo y s Y (Y / 4294967296) (Y % 4294967296) (hi * 2 ^ s) U N (N / 4294967296) (N % 4294967296) (U / (Y / 4294967296)) (U / (Y / 4294967296) * (Y / 4294967296)) (U - U / (Y / 4294967296) * (Y / 4294967296)) Q1
      (U * 4294967296 % 18446744073709551616) ((U * 4294967296 % 18446744073709551616 + N / 4294967296) % 18446744073709551616) (Q1 * Y % 18446744073709551616) U2
      (U2 / (Y / 4294967296)) (U2 / (Y / 4294967296) * (Y / 4294967296)) (U2 - U2 / (Y / 4294967296) * (Y / 4294967296)) Q2 (Q1 * 4294967296) (Q1 * 4294967296 + Q2)
      (U2 * 4294967296 % 18446744073709551616) ((U2 * 4294967296 % 18446744073709551616 + N % 4294967296) % 18446744073709551616) (Q2 * Y % 18446744073709551616) R2 (R2 / 2 ^ s) w hpos hy hlz (hs63 := ?hs63) (eY := ?eY) (e1 := ?e1) (e0 := ?e0) (eH := ?eH) (eN := ?eN) (eU := ?eU) (eN1 := ?eN1) (eN0 := ?eN0) (hyy1 := ?hyy1) (hyy0 := ?hyy0) (hd1 := ?hd1) (hd0 := ?hd0) (hy1 := ?hy1) (hUY := ?hUY) (eq0 := ?eq0) (ep0 := ?ep0) (er0 := ?er0) (eA := ?eA) (eB := ?eB) (eC := ?eC) (eD := ?eD) (eq2 := ?eq2) (ep2 := ?ep2) (er2 := ?er2) (eF := ?eF) (eG := ?eG) (eA2 := ?eA2) (eB2 := ?eB2) (eC2 := ?eC2) (eD2 := ?eD2) (eE := ?eE) (hUY2 := ?hUY2) (hi2 := ?hi2) (hr2 := ?hr2) (HQ2 := ?HQ2) (hi1 := ?hi1) (hr0 := ?hr0) (HQ1 := ?HQ1)).mono ?_
    case hs63 => omega
    case eY => rw [← cast_two_pow_mul y s, ← hY]; exact u64_self _ hY2
    case e1 => exact (Int.natCast_ediv _ _).symm
    case e0 => exact mask32 _ hY2
    case eH => rw [← cast_two_pow_mul]; exact u64_self _ hH
    case eN => rw [← cast_two_pow_mul, hNd]; exact u64_wrap _ _ rfl
    case eU => rw [hsL, cast_div_two_pow, ← hTd]; exact hor
    case eN1 => exact (Int.natCast_ediv _ _).symm
    case eN0 => exact mask32 _ hN64
    case hyy1 => omega
    case hyy0 => omega
    case hd1 => omega
    case hd0 => omega
    case hy1 => omega
    case hUY => omega
    case eq0 => rw [← Int.natCast_ediv]; exact u64_self _ (by omega)
    case ep0 => rw [← Int.natCast_mul]; exact u64_self _ (by omega)
    case er0 => exact u64_sub _ _ _ (by omega) (by omega)
    case eA => exact u64_wrap (U * 4294967296) _ rfl
    case eB => exact u64_wrap (U * 4294967296 % 18446744073709551616 + N / 4294967296) _ rfl
    case eC => rw [← Int.natCast_mul]; exact u64_wrap _ _ rfl
    case eD => exact u64_sub _ _ _ (by omega) (by omega)
    case eq2 => rw [← Int.natCast_ediv]; exact u64_self _ (by omega)
    case ep2 => rw [← Int.natCast_mul]; exact u64_self _ (by omega)
    case er2 => exact u64_sub _ _ _ (by omega) (by omega)
    case eF => exact u64_self (Q1 * 4294967296) (by omega)
    case eG => exact u64_self (Q1 * 4294967296 + Q2) (by omega)
    case eA2 => exact u64_wrap (U2 * 4294967296) _ rfl
    case eB2 => exact u64_wrap (U2 * 4294967296 % 18446744073709551616 + N % 4294967296) _ rfl
    case eC2 => rw [← Int.natCast_mul]; exact u64_wrap _ _ rfl
    case eD2 => exact u64_sub _ _ _ (by omega) (by omega)
    case eE => exact cast_div_two_pow _ _
    case hUY2 => omega
    case hi2 => exact hst2.1
    case hr2 => omega
    case HQ2 => show _ = _; rw [← hys]; exact hQ2.symm
    case hi1 => exact hst1.1
    case hr0 => omega
    case HQ1 => show _ = _; rw [← hys]; exact hQ1.symm
    rintro e w' ⟨h1, rfl⟩
    exact ⟨h1, grown_refl _ _⟩
end Go.Proofs.Ytgkhhfojioepgaa
/- Rounded quotients: as the program rounds (up from the whole number below), and as the other way has it (without a sign first). No program. -/
namespace Go.Proofs.Ytgkhhfojioepgaa
set_option linter.unusedSimpArgs false
set_option linter.unusedVariables false
def big : Int := 4611686018427387904

/-- Is the whole number above q taken? n = q * d + r. -/
def upB (how q r d : Int) : Bool :=
  if how = 1 then false
  else if how = 2 then decide (0 < r)
  else if how = 3 then decide (0 < r) && decide (q < 0)
  else if how = 4 then decide (d - r ≤ r)
  else decide (d - r < r) || (decide (r = d - r) && decide (q % 2 = 1))

def rndV (how n d : Int) : Int := n / d + (if upB how (n / d) (n % d) d then 1 else 0)

def scaleV (a num den how : Int) : Int × Int :=
  if how < 1 ∨ 5 < how then (0, 7)
  else if den < 1 ∨ num < 0 then (0, 1)
  else if rndV how (a * num) den < -big ∨ big < rndV how (a * num) den then (0, 9)
  else (rndV how (a * num) den, 0)

theorem neg_div_of (N d : Int) (hd : 0 < d) (h : N % d = 0) : -N / d = -(N / d) ∧ -N % d = 0 := by
  have hm := Int.mul_ediv_add_emod N d
  have e : -N = d * (-(N / d)) := by rw [Int.mul_neg]; omega
  constructor
  · rw [e, Int.mul_ediv_cancel_left _ (by omega)]
    
  · rw [e]; exact Int.mul_emod_right _ _

theorem neg_div_of' (N d : Int) (hd : 0 < d) (h : N % d ≠ 0) : -N / d = -(N / d) - 1 ∧ -N % d = d - N % d := by
  have hm := Int.mul_ediv_add_emod N d
  have h1 := Int.emod_nonneg N (show d ≠ 0 by omega)
  have h2 := Int.emod_lt_of_pos N hd
  have e : -N = (d - N % d) + d * (-(N / d) - 1) := by
    rw [Int.mul_sub, Int.mul_neg]; omega
  constructor
  · rw [e, Int.add_mul_ediv_left _ _ (by omega), Int.ediv_eq_zero_of_lt (by omega) (by omega)]; omega
  · rw [e, Int.add_mul_emod_self_left, Int.emod_eq_of_lt (by omega) (by omega)]

theorem rnd_near (how n d : Int) : n / d ≤ rndV how n d ∧ rndV how n d ≤ n / d + 1 := by
  unfold rndV; split <;> omega

theorem up_zero (how q d : Int) (hd : 0 < d) : upB how q 0 d = false := by
  unfold upB
  repeat' split
  all_goals simp
  all_goals omega

/-- A quotient too great is no result, however rounded. -/
theorem scale_no (a num den how : Int) (h1 : 1 ≤ how) (h5 : how ≤ 5) (hd : 1 ≤ den) (hn : 0 ≤ num) (hb : big < (a.natAbs * num) / den) : scaleV a num den how = (0, 9) := by
  unfold scaleV
  rw [if_neg (by omega), if_neg (by omega), if_pos]
  have hr := rnd_near how (a * num) den
  rcases (show a < 0 ∨ 0 ≤ a by omega) with ha | ha
  · left
    have en : (a.natAbs : Int) = -a := by omega
    have e : a * num = -((a.natAbs : Int) * num) := by rw [en, Int.neg_mul, Int.neg_neg]
    rw [e] at hr ⊢
    generalize (a.natAbs : Int) * num = N at *
    unfold rndV at hr ⊢
    by_cases hz : N % den = 0
    · obtain ⟨e1, e2⟩ := neg_div_of N den (by omega) hz
      rw [e1, e2, up_zero _ _ _ (by omega)]
      simp; omega
    · obtain ⟨e1, e2⟩ := neg_div_of' N den (by omega) hz
      rw [e1]; split <;> omega
  · right
    have e : (a.natAbs : Int) = a := by omega
    rw [e] at hb
    omega

/-- The other way of it: without a sign, and rounded up if it is to be. -/
def moreB (quo rest den : Int) (minus : Bool) (how : Int) : Bool :=
  if rest = 0 then false
  else if how = 1 then minus
  else if how = 2 then !minus
  else if how = 3 then false
  else if rest = den - rest then (if how = 4 then !minus else decide (quo % 2 = 1))
  else decide (den - rest < rest)

theorem more_pos (how q r d : Int) (h1 : 1 ≤ how) (h5 : how ≤ 5) (hq : 0 ≤ q) (h0 : 0 ≤ r) (hr : r < d) : upB how q r d = moreB q r d false how := by
  unfold upB moreB
  by_cases c0 : r = 0
  · subst c0; repeat' split
    all_goals (simp; try omega)
  rcases (show how = 1 ∨ how = 2 ∨ how = 3 ∨ how = 4 ∨ how = 5 by omega) with rfl | rfl | rfl | rfl | rfl
  · simp [c0]
  · simp [c0]; omega
  · simp [c0]; omega
  · simp [c0]; rw [Bool.eq_iff_iff]; simp; omega
  · by_cases c : r = d - r
    · have c' : ¬ d - r < r := by omega
      simp [c0, ← c]
    · simp [c0, if_neg c]; intro h; omega

theorem more_neg (how q r d : Int) (h1 : 1 ≤ how) (h5 : how ≤ 5) (hq : 0 ≤ q) (h0 : 0 < r) (hr : r < d) : upB how (-q - 1) (d - r) d = !moreB q r d true how := by
  unfold upB moreB
  have c0 : r ≠ 0 := by omega
  rcases (show how = 1 ∨ how = 2 ∨ how = 3 ∨ how = 4 ∨ how = 5 by omega) with rfl | rfl | rfl | rfl | rfl
  · simp [c0]
  · simp [c0]; omega
  · simp [c0]; omega
  · simp [c0]; rw [Bool.eq_iff_iff]; simp; omega
  · by_cases c : r = d - r
    · simp [c0]; rw [if_pos c]; rw [Bool.eq_iff_iff]; simp; omega
    · simp [c0]; rw [if_neg c]; rw [Bool.eq_iff_iff]; simp; omega

def quoV (a num den how : Int) : Int :=
  (a.natAbs * num) / den + (if moreB ((a.natAbs * num) / den) ((a.natAbs * num) % den) den (decide (a < 0)) how then 1 else 0)

theorem scale_ref (a num den how : Int) (h1 : 1 ≤ how) (h5 : how ≤ 5) (hd : 1 ≤ den) (hn : 0 ≤ num) :
    scaleV a num den how = if big < quoV a num den how then (0, 9) else ((if a < 0 then -quoV a num den how else quoV a num den how), 0) := by
  have key : rndV how (a * num) den = (if a < 0 then -quoV a num den how else quoV a num den how) ∧ 0 ≤ quoV a num den how := by
    rcases (show a < 0 ∨ 0 ≤ a by omega) with ha | ha
    · have en : (a.natAbs : Int) = -a := by omega
      have e : a * num = -((a.natAbs : Int) * num) := by rw [en, Int.neg_mul, Int.neg_neg]
      have hN : 0 ≤ (a.natAbs : Int) * num := Int.mul_nonneg (by omega) hn
      rw [e, if_pos ha]
      unfold quoV
      generalize (a.natAbs : Int) * num = N at *
      have hq : 0 ≤ N / den := Int.ediv_nonneg hN (by omega)
      have hr0 := Int.emod_nonneg N (show den ≠ 0 by omega)
      have hr1 := Int.emod_lt_of_pos N (show 0 < den by omega)
      rw [decide_eq_true ha]
      unfold rndV
      by_cases hz : N % den = 0
      · obtain ⟨e1, e2⟩ := neg_div_of N den (by omega) hz
        rw [e1, e2, up_zero _ _ _ (by omega), hz]
        simp [moreB]; omega
      · obtain ⟨e1, e2⟩ := neg_div_of' N den (by omega) hz
        rw [e1, e2, more_neg how _ _ _ h1 h5 hq (by omega) hr1]
        cases moreB (N / den) (N % den) den true how <;> simp <;> omega
    · have e : (a.natAbs : Int) = a := by omega
      have hN : 0 ≤ a * num := Int.mul_nonneg (by omega) hn
      unfold quoV
      rw [e, if_neg (by omega), decide_eq_false (by omega)]
      generalize a * num = N at *
      have hq : 0 ≤ N / den := Int.ediv_nonneg hN (by omega)
      have hr0 := Int.emod_nonneg N (show den ≠ 0 by omega)
      have hr1 := Int.emod_lt_of_pos N (show 0 < den by omega)
      unfold rndV
      rw [more_pos how _ _ _ h1 h5 hq hr0 hr1]
      exact ⟨rfl, by split <;> omega⟩
  unfold scaleV
  obtain ⟨k1, k2⟩ := key
  rw [if_neg (by omega), if_neg (by omega), k1]
  unfold big at *
  split <;> split <;> split <;> first | rfl | omega | (exfalso; omega)

end Go.Proofs.Ytgkhhfojioepgaa
namespace Go.Proofs.Ytgkhhfojioepgaa
open Go.RowKit
set_option linter.unusedSimpArgs false
set_option linter.unusedVariables false

theorem back (M num : Nat) : M * num / 18446744073709551616 * 18446744073709551616 + M * num % 18446744073709551616 = M * num := by omega

/-- The quotient without a sign, from the product on. -/
theorem mul_any (x y : Nat) (hx : x < 18446744073709551616) (hy : y < 18446744073709551616) (w : World) {H L : Nat} (hH : Hid (x * y / 18446744073709551616 = H)) (hL : Hid (x * y % 18446744073709551616 = L)) :
    Calls Try.prog 152 #[.int .u64 x, .int .u64 y] w fun e w' => e = .returned (.tuple #[.int .u64 H, .int .u64 L]) ∧ w = w' := by
  refine (Try.bits_Mul64 x y hx hy w).mono ?_
  rintro e w' ⟨h1, h2⟩
  exact ⟨by rw [h1, hH.out, hL.out], h2.symm⟩
theorem div_any {hi lo y : Nat} (w : World) (hy : hi < y) (hy2 : y < 18446744073709551616) (hl : lo < 18446744073709551616) {Q R : Nat} (hQ : Hid ((hi * 18446744073709551616 + lo) / y = Q)) (hR : Hid ((hi * 18446744073709551616 + lo) % y = R)) :
    Calls Try.prog 154 #[.int .u64 hi, .int .u64 lo, .int .u64 y] w fun e w' => e = .returned (.tuple #[.int .u64 Q, .int .u64 R]) ∧ w.grownBy w' none := by
  refine (div64_any hi lo y w hy hy2 hl).mono ?_
  rintro e w' ⟨h1, h2⟩
  exact ⟨by rw [h1, hQ.out, hR.out], h2⟩


theorem neg_wrap (a : Int) (M : Nat) (hM : M = a.natAbs) (ha : a < 0) (ha0 : -9223372036854775808 ≤ a) : IntKind.u64.wrap a = (((18446744073709551616 - M : Nat) : Nat) : Int) ∧ IntKind.u64.wrap (-(((18446744073709551616 - M : Nat) : Nat) : Int)) = (M : Int) := by
  rw [IntKind.wrap_u64, IntKind.wrap_u64]; omega

def TooBig (M num den : Nat) : Prop := 4611686018427387904 < M * num / den

set_option maxHeartbeats 1600000 in
theorem quot_no (a : Int) (num den : Nat) (ha0 : -9223372036854775808 ≤ a) (ha1 : a ≤ 9223372036854775807) (hn : num ≤ 9223372036854775807) (hd0 : 1 ≤ den) (hd1 : den ≤ 9223372036854775807) (hbig : TooBig a.natAbs num den) (w : World) :
    Calls Try.prog 149 #[.int .i64 a, .int .u64 num, .int .u64 den] w fun e w' => (e = .returned (.tuple #[.int .i64 0, .int .u64 0, .bool false])) ∧ w.grownBy w' none := by
  obtain ⟨M, hM⟩ : ∃ M, M = a.natAbs := ⟨_, rfl⟩
  obtain ⟨H, hH⟩ : ∃ H, M * num / 18446744073709551616 = H := ⟨_, rfl⟩
  obtain ⟨L, hL⟩ : ∃ H, M * num % 18446744073709551616 = H := ⟨_, rfl⟩
  have hM64 : M ≤ 9223372036854775808 := by omega
  have hL64 : L < 18446744073709551616 := by rw [← hL]; exact Nat.mod_lt _ (by decide)
  have hback := back M num
  rw [hH, hL] at hback
  rw [← hM] at hbig
  obtain ⟨Q, hQ⟩ : ∃ Q, (H * 18446744073709551616 + L) / den = Q := ⟨_, rfl⟩
  obtain ⟨R, hR⟩ : ∃ Q, (H * 18446744073709551616 + L) % den = Q := ⟨_, rfl⟩
  have hQb : 4611686018427387904 < Q := by unfold TooBig at hbig; rw [← hback, hQ] at hbig; exact hbig
  have hQi : (4611686018427387904 : Int) < (Q : Int) := by omega
  have HH := Lib.hid hH; have HL := Lib.hid hL; have HB := Lib.hid hback; have HQ := Lib.hid hQ; have HR := Lib.hid hR; have HM := Lib.hid hM; have HBIG := Lib.hid hbig
  clear hH hL hback hQ hR hQb hbig
  by_cases hhd : (den : Int) ≤ (H : Int)
  · by_cases hneg : a < 0
    · obtain ⟨e1, e2⟩ := neg_wrap a M hM hneg ha0
      obtain ⟨A1, hA1⟩ : ∃ A1, 18446744073709551616 - M = A1 := ⟨_, rfl⟩
      rw [hA1] at e1 e2
      clear hA1 hM
      go_enter Try.func149, Try.ntmps149
      go_wp2_with (go_at_call 152; refine (mul_any M num (by omega) (by omega) _ HH HL).mono ?_; rintro e w1 ⟨rfl, rfl⟩)
      go_ret3
      exact ⟨rfl, grown_refl _ _⟩
    · obtain rfl : a = (M : Int) := by omega
      clear hM
      go_enter Try.func149, Try.ntmps149
      go_wp2_with (go_at_call 152; refine (mul_any M num (by omega) (by omega) _ HH HL).mono ?_; rintro e w1 ⟨rfl, rfl⟩)
      go_ret3
      exact ⟨rfl, grown_refl _ _⟩
  · by_cases hneg : a < 0
    · obtain ⟨e1, e2⟩ := neg_wrap a M hM hneg ha0
      obtain ⟨A1, hA1⟩ : ∃ A1, 18446744073709551616 - M = A1 := ⟨_, rfl⟩
      rw [hA1] at e1 e2
      clear hA1 hM
      go_enter Try.func149, Try.ntmps149
      go_wp2_with (first | (go_at_call 152; refine (mul_any M num (by omega) (by omega) _ HH HL).mono ?_; rintro e w1 ⟨rfl, rfl⟩) | (go_at_call 154; refine (div_any _ (by omega) (by omega) hL64 HQ HR).mono ?_; rintro e w2 ⟨rfl, hg⟩))
      go_ret3
      exact ⟨rfl, by assumption⟩
    · obtain rfl : a = (M : Int) := by omega
      clear hM
      go_enter Try.func149, Try.ntmps149
      go_wp2_with (first | (go_at_call 152; refine (mul_any M num (by omega) (by omega) _ HH HL).mono ?_; rintro e w1 ⟨rfl, rfl⟩) | (go_at_call 154; refine (div_any _ (by omega) (by omega) hL64 HQ HR).mono ?_; rintro e w2 ⟨rfl, hg⟩))
      go_ret3
      exact ⟨rfl, by assumption⟩

theorem ret_iub {a b c d : Int} {x y : Bool} (h : a = b) (h' : c = d) (h'' : x = y) : Ending.returned (.tuple #[.int .i64 a, .int .u64 c, .bool x]) = .returned (.tuple #[.int .i64 b, .int .u64 d, .bool y]) := by rw [h, h', h'']

set_option maxHeartbeats 1600000 in
theorem quot_yes (a : Int) (num den : Nat) (ha0 : -9223372036854775808 ≤ a) (ha1 : a ≤ 9223372036854775807) (hn : num ≤ 9223372036854775807) (hd0 : 1 ≤ den) (hd1 : den ≤ 9223372036854775807) (hbig : ¬ TooBig a.natAbs num den) (w : World) :
    Calls Try.prog 149 #[.int .i64 a, .int .u64 num, .int .u64 den] w fun e w' => (e = .returned (.tuple #[.int .i64 (a * num / den), .int .u64 (a * num % den), .bool true])) ∧ w.grownBy w' none := by
  obtain ⟨M, hM⟩ : ∃ M, M = a.natAbs := ⟨_, rfl⟩
  obtain ⟨H, hH⟩ : ∃ H, M * num / 18446744073709551616 = H := ⟨_, rfl⟩
  obtain ⟨L, hL⟩ : ∃ H, M * num % 18446744073709551616 = H := ⟨_, rfl⟩
  have hM64 : M ≤ 9223372036854775808 := by omega
  have hL64 : L < 18446744073709551616 := by rw [← hL]; exact Nat.mod_lt _ (by decide)
  have hback := back M num
  rw [hH, hL] at hback
  rw [← hM] at hbig
  obtain ⟨Q, hQ⟩ : ∃ Q, (H * 18446744073709551616 + L) / den = Q := ⟨_, rfl⟩
  obtain ⟨R, hR⟩ : ∃ Q, (H * 18446744073709551616 + L) % den = Q := ⟨_, rfl⟩
  have hQ' := hQ
  have hR' := hR
  rw [hback] at hQ' hR'
  have hQb : Q ≤ 4611686018427387904 := by unfold TooBig at hbig; rw [hQ'] at hbig; omega
  have hQi : (Q : Int) ≤ 4611686018427387904 := by omega
  have hRd : R < den := by rw [← hR]; exact Nat.mod_lt _ hd0
  have hHd : H < den := by
    rcases Nat.lt_or_ge H den with h | h
    · exact h
    · exfalso
      have h1 : den * 18446744073709551616 ≤ M * num := by omega
      have h2 : 18446744073709551616 ≤ M * num / den := by rw [Nat.le_div_iff_mul_le (by omega), Nat.mul_comm]; exact h1
      omega
  have hHi : (H : Int) < (den : Int) := by omega
  have hcast : ((M * num : Nat) : Int) = (M : Int) * (num : Int) := by push_cast; rfl
  have hq : ((M : Int) * (num : Int)) / (den : Int) = (Q : Int) := by rw [← hcast, ← Int.natCast_ediv, hQ']
  have hr : ((M : Int) * (num : Int)) % (den : Int) = (R : Int) := by rw [← hcast, ← Int.natCast_emod, hR']
  have HH := Lib.hid hH; have HL := Lib.hid hL; have HQ := Lib.hid hQ; have HR := Lib.hid hR
  have Hq := Lib.hid hq; have Hr := Lib.hid hr
  clear hH hL hback hQ hR hQb hbig hQ' hR' hcast hq hr
  by_cases hneg : a < 0
  · obtain ⟨e1, e2⟩ := neg_wrap a M hM hneg ha0
    obtain ⟨A1, hA1⟩ : ∃ A1, 18446744073709551616 - M = A1 := ⟨_, rfl⟩
    rw [hA1] at e1 e2
    have haM : a * (num : Int) = -((M : Int) * (num : Int)) := by
      have : a = -(M : Int) := by omega
      rw [this, Int.neg_mul]
    have HA := Lib.hid haM
    clear hA1 hM haM
    by_cases hz : R = 0
    · subst hz
      have hd := neg_div_of ((M : Int) * (num : Int)) den (by omega) (by rw [Hr.out]; rfl)
      have HD := Lib.hid hd; clear hd
      go_enter Try.func149, Try.ntmps149
      go_wp2_with (first | (go_at_call 152; refine (mul_any M num (by omega) (by omega) _ HH HL).mono ?_; rintro e w1 ⟨rfl, rfl⟩) | (go_at_call 154; refine (div_any _ (by omega) (by omega) hL64 HQ HR).mono ?_; rintro e w2 ⟨rfl, hg⟩))
      go_ret3
      exact ⟨ret_iub (by rw [HA.out, HD.out.1, Hq.out]) (by rw [HA.out, HD.out.2]) rfl, by assumption⟩
    · have hz1 : ((R : Int) == 0) = false := by simp; omega
      have hd := neg_div_of' ((M : Int) * (num : Int)) den (by omega) (by rw [Hr.out]; omega)
      have HD := Lib.hid hd; clear hd
      go_enter Try.func149, Try.ntmps149
      go_wp2_with (first | (go_at_call 152; refine (mul_any M num (by omega) (by omega) _ HH HL).mono ?_; rintro e w1 ⟨rfl, rfl⟩) | (go_at_call 154; refine (div_any _ (by omega) (by omega) hL64 HQ HR).mono ?_; rintro e w2 ⟨rfl, hg⟩))
      go_ret3
      exact ⟨ret_iub (by rw [HA.out, HD.out.1, Hq.out]) (by rw [HA.out, HD.out.2, Hr.out]) rfl, by assumption⟩
  · obtain rfl : a = (M : Int) := by omega
    clear hM
    go_enter Try.func149, Try.ntmps149
    go_wp2_with (first | (go_at_call 152; refine (mul_any M num (by omega) (by omega) _ HH HL).mono ?_; rintro e w1 ⟨rfl, rfl⟩) | (go_at_call 154; refine (div_any _ (by omega) (by omega) hL64 HQ HR).mono ?_; rintro e w2 ⟨rfl, hg⟩))
    go_ret3
    exact ⟨ret_iub (by rw [Hq.out]) (by rw [Hr.out]) rfl, by assumption⟩
end Go.Proofs.Ytgkhhfojioepgaa
