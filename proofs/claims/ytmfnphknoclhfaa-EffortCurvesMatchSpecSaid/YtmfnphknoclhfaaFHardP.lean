/- How hard a stream is, purely: sums of cubes of the means of windows. -/
import Derived.Test.YtmfnphknoclhfaaFSmooth
import Derived.Test.YtmfnphknoclhfaaFCube
namespace Go.Proofs.Ytmfnphknoclhfaa
open Go.RowKit

def hardE (l : List Int) : Int := if streamE l = 0 then eachE (-1) 10000 l else streamE l
def cubI (x : Int) : Int := x * x * x
/-- Of the first seconds: the cubes of the known means together, and how many there are. -/
def hsN (l : List Int) : Nat → Int
  | 0 => 0
  | k + 1 => if smV l 30 k < 0 then hsN l k else hsN l k + cubI (smV l 30 k)
def hmN (l : List Int) : Nat → Int
  | 0 => 0
  | k + 1 => if smV l 30 k < 0 then hmN l k else hmN l k + 1
theorem sv_part {l : List Int} {M : Int} (hM : 0 ≤ M) (hv : ∀ k, k < l.length → nthI l k ≤ M) (a : Nat) : ∀ d, a + d ≤ l.length → 0 ≤ svN l (a + d) - svN l a ∧ svN l (a + d) - svN l a ≤ d * M
  | 0, _ => by simp
  | d + 1, h => by
    have ih := sv_part hM hv a d (by omega)
    have hx := hv (a + d) (by omega)
    have e : ((d + 1 : Nat) : Int) * M = d * M + M := by rw [Int.natCast_add, Int.add_mul]; simp
    rw [e]
    rw [show a + (d + 1) = a + d + 1 by omega, svN]
    split <;> omega
theorem sm_bd {l : List Int} (hv : ∀ k, k < l.length → nthI l k ≤ 10000) {k : Nat} (hk : k < l.length) : -1 ≤ smV l 30 k ∧ smV l 30 k ≤ 10000 := by
  unfold smV
  split
  · rename_i h
    split
    · have q := sv_part (by omega) hv (k + 1 - 30) 30 (by omega)
      rw [show k + 1 - 30 + 30 = k + 1 by omega] at q
      rw [Int.tdiv_eq_ediv_of_nonneg q.1]
      have q2 := q.2
      have q1 := q.1
      generalize svN l (k + 1) - svN l (k + 1 - 30) = z at *
      omega
    · omega
  · omega
theorem hs_bd {l : List Int} (hv : ∀ k, k < l.length → nthI l k ≤ 10000) : ∀ k, k ≤ l.length → (0 ≤ hsN l k ∧ hsN l k ≤ 1000000000000 * hmN l k) ∧ 0 ≤ hmN l k ∧ hmN l k ≤ k
  | 0, _ => by simp [hsN, hmN]
  | k + 1, h => by
    have ih := hs_bd hv k (by omega)
    have hb := sm_bd hv (show k < l.length by omega)
    rw [hsN, hmN]
    split
    · omega
    · rename_i h0
      have q := cube_mono (a := 0) (b := smV l 30 k) (by omega) (by omega)
      have q2 := cube_mono (a := smV l 30 k) (b := 10000) (by omega) (by omega)
      unfold cubI
      generalize smV l 30 k * smV l 30 k * smV l 30 k = c at *
      omega
end Go.Proofs.Ytmfnphknoclhfaa
