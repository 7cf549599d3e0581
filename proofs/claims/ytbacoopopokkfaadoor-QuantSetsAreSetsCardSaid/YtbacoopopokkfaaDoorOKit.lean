/- Rows of structs that are sorted: which element lies in which place, and the worlds that a sort passes through. -/
import Derived.Test.YtbacoopopokkfaaDoorQBlocks
import Derived.Shelf.SlSortCmp.KitK
import Derived.Laws.AppendOwn
namespace Go.Proofs.YtbacoopopokkfaaDoor
open Go.RowKit
set_option linter.unusedSimpArgs false
set_option linter.unusedVariables false

/-- The numbers in the first n places. -/
def fA (n : Nat) (f : Nat → Nat) : Array Nat := ((List.range n).map f).toArray
theorem fA_size (n : Nat) (f : Nat → Nat) : (fA n f).size = n := by simp [fA]
theorem fA_get {n : Nat} {f : Nat → Nat} {k : Nat} (h : k < n) : (fA n f)[k]! = f k := by
  rw [getElem!_pos _ k (by rw [fA_size]; exact h)]; simp [fA]
theorem fA_ext {n : Nat} {d : Array Nat} {f : Nat → Nat} (hs : d.size = n) (h : ∀ k, k < n → d[k]! = f k) : d = fA n f := by
  apply Array.ext
  · rw [hs, fA_size]
  · intro i h1 h2
    have q := h i (by omega)
    rw [getElem!_pos d i h1] at q
    rw [q, ← fA_get (f := f) (show i < n by omega), getElem!_pos _ i h2]
theorem fA_swp {n : Nat} {f : Nat → Nat} {i j : Nat} (hi : i < n) (hj : j < n) : Go.Sort.swp (fA n f) i j = fA n (swp f i j) := by
  apply fA_ext
  · rw [Go.Sort.size_swp, fA_size]
  · intro k hk
    rw [Go.Sort.swp_get _ (by rw [fA_size]; exact hi) (by rw [fA_size]; exact hj)]
    unfold swp
    by_cases e1 : k = i
    · by_cases e2 : k = j
      · subst e1; subst e2; simp [fA_get hk]
      · subst e1; simp [e2, fA_get hj]
    · by_cases e2 : k = j
      · subst e2; simp [e1, fA_get hi]
      · simp [e1, e2, fA_get hk]

/-- What the sort is told, once: the row at first, the comparison, and the keys (the greater ones come first). -/
structure SBase (P : Program) (enc : Nat → List Value) (K n g off : Nat) (w0 : World) (G : Nat) (CB : Array Value) (cf : Nat → Nat → Int) (key : Nat → Int) : Prop where
  row : RowK enc K w0 g off (fA n fun k => k)
  cmp : CmpLays P G CB enc K cf g off n w0
  eg : ∀ args w, (callFunc G args).run P w = .ok (.enter G args) w
  hcf : ∀ x y, x < n → y < n → (cf x y < 0 ↔ key y < key x)
  hn : n ≤ 20000

/-- A world of the sort's: place k holds element f k. -/
structure SorK (enc : Nat → List Value) (K n g off : Nat) (w0 : World) (f : Nat → Nat) (W : World) : Prop where
  S : SWK enc K w0 g off (fA n f) W
  lt : ∀ k, k < n → f k < n

section
variable {P : Program} {enc : Nat → List Value} {K n g off : Nat} {w0 W : World} {G : Nat} {CB : Array Value} {cf : Nat → Nat → Int} {key : Nat → Int} {f : Nat → Nat}
theorem SorK.start (B : SBase P enc K n g off w0 G CB cf key) : SorK enc K n g off w0 (fun k => k) w0 := ⟨SWK.start B.row.hH, fun _ h => h⟩
theorem SorK.grown (h : SorK enc K n g off w0 f W) (q : Nat) (os : Array Obj) : SorK enc K n g off w0 f (Go.Sort.grow (W.drewN q) os) := ⟨h.S.grown q os, h.lt⟩
theorem SorK.drew (h : SorK enc K n g off w0 f W) : SorK enc K n g off w0 f W.drew := ⟨h.S.drew, h.lt⟩
theorem SorK.drewN (h : SorK enc K n g off w0 f W) (q : Nat) : SorK enc K n g off w0 f (W.drewN q) := ⟨h.S.drewN q, h.lt⟩
theorem SorK.cell (h : SorK enc K n g off w0 f W) (B : SBase P enc K n g off w0 G CB cf key) {k c : Nat} (hk : k < n) (hc : c < K) :
    W.cell? ⟨g, off + k * K + c, none⟩ = some (enc (f k))[c]! := by
  have q := (Go.Sort.HoldsK.cell (h.S.holds B.row.hblk B.row.hH (by rw [fA_size, fA_size])) (i := k) (c := c) (by rw [fA_size]; exact hk) hc).1
  rwa [fA_get hk] at q
theorem SorK.free (h : SorK enc K n g off w0 f W) (B : SBase P enc K n g off w0 G CB cf key) {k c : Nat} (hk : k < n) (hc : c < K) :
    W.frozen? ⟨g, off + k * K + c, none⟩ = false :=
  (Go.Sort.HoldsK.cell (h.S.holds B.row.hblk B.row.hH (by rw [fA_size, fA_size])) (i := k) (c := c) (by rw [fA_size]; exact hk) hc).2
theorem SorK.calls (h : SorK enc K n g off w0 f W) (B : SBase P enc K n g off w0 G CB cf key) (x y : Nat) (q : Nat) (os : Array Obj) :
    Calls P G (#[.agg (enc x).toArray, .agg (enc y).toArray] ++ CB) (Go.Sort.grow (W.drewN q) os) fun e w' => e = .returned (.int .i64 (cf x y)) ∧ ∃ q' os', w' = Go.Sort.grow ((Go.Sort.grow (W.drewN q) os).drewN q') os' :=
  h.S.cmp B.cmp (fA_size n f) x y q os
theorem SorK.swap (h : SorK enc K n g off w0 f W) (B : SBase P enc K n g off w0 G CB cf key) {i j : Nat} (hi : i < n) (hj : j < n) :
    SorK enc K n g off w0 (swp f i j) ((W.drew.setCells g (off + i * K) (enc (f j))).setCells g (off + j * K) (enc (f i))) := by
  have q := h.S.swapped B.row i j (by rw [fA_size]; exact hi) (by rw [fA_size]; exact hj)
  rw [fA_get hi, fA_get hj, fA_swp hi hj] at q
  refine ⟨q, fun k hk => ?_⟩
  unfold swp
  split
  · exact h.lt _ hj
  · split
    · exact h.lt _ hi
    · exact h.lt _ hk
theorem SorK.swapD (h : SorK enc K n g off w0 f W) (B : SBase P enc K n g off w0 G CB cf key) {i j : Nat} (hi : i < n) (hj : j < n) :
    SorK enc K n g off w0 (swp f i j) (((W.setCells g (off + i * K) (enc (f j))).setCells g (off + j * K) (enc (f i)))).drew := by
  have q := h.S.swap B.row.hk B.row.hblk i j (by rw [fA_size]; exact hi) (by rw [fA_size]; exact hj)
  rw [fA_get hi, fA_get hj, fA_swp hi hj] at q
  exact ⟨q.drewN 1, (h.swap B hi hj).lt⟩
/-- A cell in the worlds of a test. -/
theorem SorK.gcell (h : SorK enc K n g off w0 f W) (B : SBase P enc K n g off w0 G CB cf key) {k c x : Nat} (hk : k < n) (hc : c < K) (hx : f k = x) (q : Nat) (os : Array Obj) :
    (Go.Sort.grow (W.drewN q) os).cell? ⟨g, off + k * K + c, none⟩ = some (enc x)[c]! := by
  have := (h.grown q os).cell B hk hc
  rwa [hx] at this
end
end Go.Proofs.YtbacoopopokkfaaDoor
