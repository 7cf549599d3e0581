/- How many seconds lie in each zone, purely. -/
import Derived.Test.YtfeefijaahjheaaEInts
namespace Go.Proofs.Ytfeefijaahjheaa
open Go.RowKit
set_option linter.unusedSimpArgs false
set_option linter.unusedVariables false

/-- How many limits a number has reached. -/
def zoneN (n : Int) : List Int → Nat
  | [] => 0
  | z :: r => if z ≤ n then zoneN n r + 1 else 0
theorem zoneN_le (n : Int) : ∀ zs : List Int, zoneN n zs ≤ zs.length
  | [] => Nat.le_refl _
  | z :: r => by unfold zoneN; split <;> simp; have := zoneN_le n r; omega
theorem zoneN_at {n : Int} {zs : List Int} {k : Nat} (h : k < zs.length) : zoneN n (zs.drop k) = if nthI zs k ≤ n then zoneN n (zs.drop (k + 1)) + 1 else 0 := by
  rw [List.drop_eq_getElem_cons h, zoneN, nthI_at h]
theorem zoneN_end {n : Int} {zs : List Int} {k : Nat} (h : zs.length ≤ k) : zoneN n (zs.drop k) = 0 := by
  rw [List.drop_eq_nil_of_le h]; rfl

def upI (F : Nat → Int) (i : Nat) (v : Int) : Nat → Int := fun k => if k = i then v else F k
/-- The counts and the unknown ones, once the numbers are gone through. -/
structure ZSt where
  F : Nat → Int
  u : Int
def ZSt.next (zs : List Int) (s : ZSt) (x : Int) : ZSt := if x < 0 then ⟨s.F, s.u + 1⟩ else ⟨upI s.F (zoneN x zs) (s.F (zoneN x zs) + 1), s.u⟩
def zonesS (zs : List Int) : ZSt → List Int → ZSt
  | s, [] => s
  | s, x :: r => zonesS zs (s.next zs x) r
theorem zonesS_at {zs : List Int} {s : ZSt} {l : List Int} {k : Nat} (h : k < l.length) : zonesS zs s (l.drop k) = zonesS zs (s.next zs (nthI l k)) (l.drop (k + 1)) := by
  rw [List.drop_eq_getElem_cons h, zonesS, nthI_at h]
theorem zonesS_end {zs : List Int} {s : ZSt} {l : List Int} {k : Nat} (h : l.length ≤ k) : zonesS zs s (l.drop k) = s := by
  rw [List.drop_eq_nil_of_le h]; rfl
def ZSt.init : ZSt := ⟨fun _ => 0, 0⟩

/-- The first numbers together. -/
def sumF (F : Nat → Int) : Nat → Int
  | 0 => 0
  | n + 1 => sumF F n + F n
theorem sumF_up (F : Nat → Int) (i : Nat) (v : Int) : ∀ n, sumF (upI F i v) n = sumF F n + (if i < n then v - F i else 0)
  | 0 => by simp [sumF]
  | n + 1 => by
    rw [sumF, sumF, sumF_up F i v n]
    unfold upI
    by_cases h : n = i
    · subst h; rw [if_pos rfl, if_neg (by omega), if_pos (by omega)]; omega
    · rw [if_neg h]
      by_cases h2 : i < n
      · rw [if_pos h2, if_pos (by omega)]; omega
      · rw [if_neg h2, if_neg (by omega)]; omega

/-- What is so after k numbers. -/
structure ZSt.Ok (zs : List Int) (k : Nat) (s : ZSt) : Prop where
  sum : sumF s.F (zs.length + 1) + s.u = k
  pos : ∀ j, 0 ≤ s.F j
  le : ∀ j, s.F j ≤ k
  u0 : 0 ≤ s.u
  u1 : s.u ≤ k
theorem zok_init (zs : List Int) : ZSt.init.Ok zs 0 := by
  have h : ∀ n, sumF (fun _ => 0) n = 0 := fun n => by
    induction n with
    | zero => rfl
    | succ n ih => rw [sumF, ih]; rfl
  exact ⟨by show sumF (fun _ => 0) _ + 0 = _; rw [h]; rfl, fun _ => Int.le_refl _, fun _ => Int.le_refl _, Int.le_refl _, Int.le_refl _⟩
theorem zok_next {zs : List Int} {k : Nat} {s : ZSt} (h : s.Ok zs k) (x : Int) : (s.next zs x).Ok zs (k + 1) := by
  obtain ⟨a, b, c, d, e⟩ := h
  unfold ZSt.next
  split
  · exact ⟨by simp only; omega, b, fun j => by have := c j; simp only; omega, by simp only; omega, by simp only; omega⟩
  · have hz := zoneN_le x zs
    refine ⟨?_, fun j => ?_, fun j => ?_, d, by simp only; omega⟩
    · show sumF (upI s.F (zoneN x zs) (s.F (zoneN x zs) + 1)) (zs.length + 1) + s.u = _
      rw [sumF_up, if_pos (by omega)]; omega
    · show 0 ≤ upI s.F (zoneN x zs) (s.F (zoneN x zs) + 1) j
      unfold upI; have := b j; have := b (zoneN x zs); split <;> omega
    · show upI s.F (zoneN x zs) (s.F (zoneN x zs) + 1) j ≤ _
      unfold upI; have := c j; have := c (zoneN x zs); split <;> omega
theorem zok_all {zs : List Int} : ∀ (l : List Int) (k : Nat) (s : ZSt), s.Ok zs k → (zonesS zs s l).Ok zs (k + l.length)
  | [], k, s, h => h
  | x :: r, k, s, h => by
    have := zok_all r (k + 1) (s.next zs x) (zok_next h x)
    rw [zonesS, List.length_cons, show k + (r.length + 1) = k + 1 + r.length by omega]; exact this

/-- A row of numbers that was made. -/
def rowI (n : Nat) (F : Nat → Int) : Array Value := ((List.range n).map fun k => Value.int .i64 (F k)).toArray
theorem rowI_get (n : Nat) (F : Nat → Int) (k : Nat) (h : k < n) : (rowI n F)[k]? = some (.int .i64 (F k)) := by simp [rowI, h]
theorem rowI_set (n : Nat) (F : Nat → Int) (k : Nat) (v : Int) : (rowI n F).setIfInBounds k (.int .i64 v) = rowI n (upI F k v) := by
  unfold rowI
  rw [List.setIfInBounds_toArray]
  congr 1
  apply List.ext_getElem
  · simp
  · intro i h1 h2
    simp at h1 h2
    simp [List.getElem_set, upI]
    by_cases hi : k = i
    · subst hi; simp
    · rw [if_neg hi, if_neg (fun e => hi e.symm)]
theorem rowI_zero (n : Nat) : madeCells #[Value.int .i64 0] n = rowI n (fun _ => 0) := by
  apply Array.ext
  · simp [madeCells, rowI]
  · intro i h1 h2
    simp [madeCells, rowI, Nat.mod_one]

structure RowF (w : World) (g n : Nat) (F : Nat → Int) : Prop where
  h : w.heap[g]? = some (.cells (rowI n F) 3 (0, 0))
theorem RowF.cell {w : World} {g n : Nat} {F : Nat → Int} (r : RowF w g n F) {k : Nat} (hk : k < n) : w.cell? ⟨g, k, none⟩ = some (.int .i64 (F k)) := by
  simp [World.cell?, r.h, rowI_get n F k hk]
theorem RowF.free {w : World} {g n : Nat} {F : Nat → Int} (r : RowF w g n F) (k : Nat) : w.frozen? ⟨g, k, none⟩ = false := by
  simp [World.frozen?, r.h]
theorem RowF.set {w : World} {g n : Nat} {F : Nat → Int} (r : RowF w g n F) (k : Nat) (v : Int) : RowF (w.setCell ⟨g, k, none⟩ (.int .i64 v)) g n (upI F k v) := by
  constructor
  simp [World.setCell, Array.getElem?_modify, r.h, rowI_set]
theorem RowF.grown {w w' : World} {g n : Nat} {F : Nat → Int} (r : RowF w g n F) (hg : w.grownBy w' none) : RowF w' g n F :=
  ⟨(hg.block g (Array.getElem?_eq_some_iff.1 r.h).1 (by simp)).trans r.h⟩

end Go.Proofs.Ytfeefijaahjheaa
