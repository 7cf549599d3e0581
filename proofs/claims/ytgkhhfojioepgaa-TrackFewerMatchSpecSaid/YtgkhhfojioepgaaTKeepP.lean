/- The samples that can be true, purely: of each the next one, from the last sample on. -/
import Derived.Test.YtgkhhfojioepgaaBaseC
namespace Go.Proofs.Ytgkhhfojioepgaa
open Go.RowKit
set_option linter.unusedSimpArgs false
set_option linter.unusedVariables false

/-- How far somebody comes between two samples. -/
def farV (p q : Smp) (fast : Int) : Int := fast * (q.t - p.t)
/-- Can somebody come from p to q? -/
def agr (p q : Smp) (fast : Int) : Bool := decide (sqP p q ≤ min (farV p q fast) 300000000 * min (farV p q fast) 300000000)
theorem far_bd {p q : Smp} {fast : Int} (f0 : 1 ≤ fast) (f1 : fast ≤ 100000) (t0 : 0 ≤ q.t - p.t) (t1 : q.t - p.t ≤ 1000000) : 0 ≤ farV p q fast ∧ farV p q fast ≤ 100000000000 := by
  unfold farV
  have a : 0 ≤ fast * (q.t - p.t) := Int.mul_nonneg (by omega) t0
  have b : fast * (q.t - p.t) ≤ 100000 * (q.t - p.t) := Int.mul_le_mul_of_nonneg_right f1 t0
  omega
theorem sq_up {a b : Int} (h0 : 0 ≤ a) (h : a ≤ b) : a * a ≤ b * b := Int.mul_le_mul h h h0 (by omega)
/-- The reference says it otherwise. -/
theorem agr_far {p q : Smp} (hp : inPlane p) (hq : inPlane q) {fast : Int} (f0 : 1 ≤ fast) (f1 : fast ≤ 100000) (t0 : 0 ≤ q.t - p.t) (t1 : q.t - p.t ≤ 1000000) :
    agr p q fast = if 400000000 ≤ farV p q fast then true else decide (sqP p q ≤ farV p q fast * farV p q fast) := by
  have hb := far_bd f0 f1 t0 t1
  have hs := sqP_bd hp hq
  unfold agr
  generalize farV p q fast = f at *
  by_cases h : f ≤ 300000000
  · rw [if_neg (by omega), show min f 300000000 = f by omega]
  · have q1 := sq_up (a := 300000000) (b := f) (by omega) (by omega)
    rw [show min f 300000000 = 300000000 by omega]
    have e1 : decide (sqP p q ≤ 300000000 * 300000000) = true := by simp; omega
    rw [e1]
    split
    · rfl
    · symm; simp; omega

section
variable (n : Nat)
/-- Of the d last ones, looked at downwards, the best next one (n: none). -/
def nxt (L : Nat → Nat) (a : Nat → Bool) : Nat → Nat
  | 0 => n
  | d + 1 => if a (n - 1 - d) = true ∧ L (nxt L a d) ≤ L (n - 1 - d) then n - 1 - d else nxt L a d
variable (ag : Nat → Nat → Bool)
/-- How many the longest list from each one on has, and the first one of the longest: behind d rounds. -/
def kpV : Nat → (Nat → Nat) × Nat
  | 0 => (fun _ => 0, n)
  | d + 1 =>
    let L' := fun k => if k = n - 1 - d then (kpV d).1 (nxt n (kpV d).1 (ag (n - 1 - d)) d) + 1 else (kpV d).1 k
    (L', if L' (kpV d).2 ≤ L' (n - 1 - d) then n - 1 - d else (kpV d).2)
/-- The next one of each. -/
def nextK (k : Nat) : Nat := nxt n (kpV n ag (n - 1 - k)).1 (ag k) (n - 1 - k)
end
theorem nxt_in (n : Nat) (L : Nat → Nat) (a : Nat → Bool) : ∀ d, d ≤ n → nxt n L a d ≤ n ∧ (nxt n L a d < n → n - d ≤ nxt n L a d)
  | 0, _ => by simp [nxt]
  | d + 1, h => by
    have ih := nxt_in n L a d (by omega)
    rw [nxt]; split <;> omega
theorem kp_bd (n : Nat) (ag : Nat → Nat → Bool) : ∀ d, d ≤ n → (∀ k, (kpV n ag d).1 k ≤ d) ∧ (∀ k, k < n - d ∨ n ≤ k → (kpV n ag d).1 k = 0) ∧ (kpV n ag d).2 ≤ n ∧ ((kpV n ag d).2 < n → n - d ≤ (kpV n ag d).2) ∧ (0 < d → (kpV n ag d).2 < n)
  | 0, _ => by simp [kpV]
  | d + 1, h => by
    obtain ⟨a, b, c, e, g⟩ := kp_bd n ag d (by omega)
    have hL : ∀ k, (kpV n ag (d + 1)).1 k = if k = n - 1 - d then (kpV n ag d).1 (nxt n (kpV n ag d).1 (ag (n - 1 - d)) d) + 1 else (kpV n ag d).1 k := fun k => rfl
    have hF : (kpV n ag (d + 1)).2 = if (kpV n ag (d + 1)).1 (kpV n ag d).2 ≤ (kpV n ag (d + 1)).1 (n - 1 - d) then n - 1 - d else (kpV n ag d).2 := rfl
    have q := a (nxt n (kpV n ag d).1 (ag (n - 1 - d)) d)
    refine ⟨fun k => ?_, fun k hk => ?_, ?_, ?_, ?_⟩
    · rw [hL]; have := a k; split <;> omega
    · rw [hL, if_neg (by omega)]; exact b k (by omega)
    · rw [hF]; split <;> omega
    · rw [hF]; split <;> omega
    · intro _
      rw [hF]
      split
      · omega
      · rename_i hn
        rcases Nat.lt_or_ge 0 d with z | z
        · exact g z
        · obtain rfl : d = 0 := by omega
          exfalso; apply hn
          rw [hL, hL, if_neg (show ¬ (kpV n ag 0).2 = n - 1 - 0 by simp [kpV]; omega), if_pos rfl]
          simp [kpV]
theorem nextK_in (n : Nat) (ag : Nat → Nat → Bool) (k : Nat) (h : k < n) : k < nextK n ag k ∧ nextK n ag k ≤ n := by
  have := nxt_in n (kpV n ag (n - 1 - k)).1 (ag k) (n - 1 - k) (by omega)
  unfold nextK
  omega
/-- The row of the next ones behind d rounds, as a side writes numbers. -/
def rowK (n : Nat) (ag : Nat → Nat → Bool) (e : Nat → Int) (d : Nat) : Nat → Int := fun k => if k < n ∧ n - d ≤ k then e (nextK n ag k) else 0
theorem rowK_succ (n : Nat) (ag : Nat → Nat → Bool) (e : Nat → Int) {d i : Nat} (h : d < n) (hi : i = n - 1 - d) : rowK n ag e (d + 1) = updI (rowK n ag e d) i (e (nxt n (kpV n ag d).1 (ag i) d)) := by
  subst hi
  funext k
  unfold rowK updI
  by_cases hk : k = n - 1 - d
  · subst hk
    rw [if_pos rfl, if_pos (by omega)]
    unfold nextK
    rw [show n - 1 - (n - 1 - d) = d by omega]
  · rw [if_neg hk]
    show _ = if k < n ∧ n - d ≤ k then e (nextK n ag k) else 0
    by_cases h2 : k < n ∧ n - d ≤ k
    · rw [if_pos h2, if_pos (by omega)]
    · rw [if_neg h2, if_neg (by omega)]
/-- The program's -1. -/
def encM (n x : Nat) : Int := if x = n then -1 else (x : Int)

/-- The list: a number, its next one, and so on. -/
def pth (g : Nat → Nat) (f : Nat) : Nat → Nat
  | 0 => f
  | k + 1 => g (pth g f k)
def pthVs (g : Nat → Nat) (f k : Nat) : List Value := (List.range k).map fun j => .int .i64 (pth g f j)
theorem pthVs_succ (g : Nat → Nat) (f k : Nat) : pthVs g f (k + 1) = pthVs g f k ++ [.int .i64 (pth g f k)] := by simp [pthVs, List.range_succ]
theorem pthVs_len (g : Nat → Nat) (f k : Nat) : (pthVs g f k).length = k := by simp [pthVs]
/-- Where a list ends. -/
def PthEnd (n : Nat) (g : Nat → Nat) (f k : Nat) : Prop := (∀ j, j < k → pth g f j < n) ∧ pth g f k = n
theorem pth_one {n : Nat} {g : Nat → Nat} {f k l : Nat} (h : PthEnd n g f k) (h' : PthEnd n g f l) : k = l := by
  rcases Nat.lt_trichotomy k l with q | q | q
  · have := h'.1 k q; have := h.2; omega
  · exact q
  · have := h.1 l q; have := h'.2; omega
theorem pth_up {n : Nat} {g : Nat → Nat} (hg : ∀ k, k < n → k < g k ∧ g k ≤ n) {f : Nat} (hf : f ≤ n) : ∀ k, (∀ j, j < k → pth g f j < n) → k ≤ pth g f k ∧ pth g f k ≤ n
  | 0, _ => ⟨Nat.zero_le _, hf⟩
  | k + 1, h => by
    have a := (pth_up hg hf k (fun j hj => h j (by omega))).1
    have b := hg _ (h k (by omega))
    show k + 1 ≤ g (pth g f k) ∧ g (pth g f k) ≤ n
    omega
end Go.Proofs.Ytgkhhfojioepgaa
