/- Sums of the numbers so far, purely; two rows that are appended to beside each other. -/
import Derived.Test.YtfeefijaahjheaaFRow
import Derived.Maps.AppendAt
namespace Go.Proofs.Ytfeefijaahjheaa
open Go.RowKit
set_option linter.unusedSimpArgs false
set_option linter.unusedVariables false

/-- The known numbers so far together; how many are not known. -/
def svN (l : List Int) : Nat → Int
  | 0 => 0
  | k + 1 => if nthI l k < 0 then svN l k else svN l k + nthI l k
def suN (l : List Int) : Nat → Int
  | 0 => 0
  | k + 1 => if nthI l k < 0 then suN l k + 1 else suN l k
theorem sums_bds {l : List Int} (hl : (l.length : Int) ≤ 1000000) (hv : ∀ k, k < l.length → -1 ≤ nthI l k ∧ nthI l k ≤ 1000000000) : ∀ k, k ≤ l.length → (0 ≤ svN l k ∧ svN l k ≤ 1000000000 * k) ∧ 0 ≤ suN l k ∧ suN l k ≤ k
  | 0, _ => ⟨⟨Int.le_refl _, by simp [svN]⟩, Int.le_refl _, by simp [suN]⟩
  | k + 1, hk => by
    obtain ⟨⟨a, b⟩, c, d⟩ := sums_bds hl hv k (by omega)
    have hx := hv k (by omega)
    rw [svN, suN]
    split <;> omega

/-- Two rows and a box that holds two slices, in a world. -/
structure D2 (w0 : World) (B : Nat) (vA vB : Value) (rA rB : Value) (nA nB : Nat) (xA xB : List Value) (W : World) : Prop where
  g : w0.grownBy W none
  bx : W.heap[B]? = some (.cells #[vA, vB] 76 (0, 0))
  a : W.ownsRow w0.heap.size 3 1 rA nA xA
  b : W.ownsRow w0.heap.size 3 1 rB nB xB
  ab : ∀ g, rA.ownBlock = some g → rB.ownBlock ≠ some g
  aB : rA.ownBlock ≠ some B
  bB : rB.ownBlock ≠ some B
section
variable {w0 : World} {B : Nat} {vA vB rA rB : Value} {nA nB : Nat} {xA xB : List Value} {W : World}
theorem D2.lt (h : D2 w0 B vA vB rA rB nA nB xA xB W) : B < W.heap.size := (Array.getElem?_eq_some_iff.1 h.bx).1
theorem D2.c0 (h : D2 w0 B vA vB rA rB nA nB xA xB W) : W.cell? ⟨B, 0, none⟩ = some vA := by simp [World.cell?, h.bx]
theorem D2.c1 (h : D2 w0 B vA vB rA rB nA nB xA xB W) : W.cell? ⟨B, 1, none⟩ = some vB := by simp [World.cell?, h.bx]
theorem D2.fr (h : D2 w0 B vA vB rA rB nA nB xA xB W) (i : Nat) : W.frozen? ⟨B, i, none⟩ = false := by simp [World.frozen?, h.bx]
theorem kept_own {w w' : World} {base : Nat} {e : TypeId} {size : Nat} {v : Value} {n : Nat} {xs : List Value} (h : w.ownsRow base e size v n xs) (g : w.grownBy w' none) : w'.ownsRow base e size v n xs := h.kept g (by by_cases h : v.ownBlock = none <;> simp [h])
theorem D2.grown (h : D2 w0 B vA vB rA rB nA nB xA xB W) {W' : World} (hg : W.grownBy W' none) : D2 w0 B vA vB rA rB nA nB xA xB W' :=
  ⟨grown_trans h.g hg, (hg.block B h.lt (by simp)).trans h.bx, kept_own h.a hg, kept_own h.b hg, h.ab, h.aB, h.bB⟩
theorem row_kept {r r' : Value} {n : Nat} {xs : List Value} {W' : World} (h : W.ownsRow w0.heap.size 3 1 r n xs) (hg : W.grownBy W' r'.ownBlock) (hne : ∀ g, r'.ownBlock = some g → r.ownBlock ≠ some g) : W'.ownsRow w0.heap.size 3 1 r n xs := by
  rcases h.2 with ⟨hv, h0⟩ | ⟨g, cap, cur, hv, hb, hgg, rest⟩
  · exact ⟨h.1, .inl ⟨hv, h0⟩⟩
  · refine ⟨h.1, .inr ⟨g, cap, cur, hv, hb, ?_, rest⟩⟩
    have hlt : g < W.heap.size := (Array.getElem?_eq_some_iff.1 hgg).1
    rw [hg.block g hlt (fun e => by
      have := hne g e.symm
      rw [hv] at this
      exact this rfl)]
    exact hgg
theorem grown_row {W' : World} {r : Value} {n : Nat} {xs : List Value} (h0 : w0.grownBy W none) (h : W.ownsRow w0.heap.size 3 1 r n xs) (hg : W.grownBy W' r.ownBlock) : w0.grownBy W' none := by
  refine ⟨hg.os.trans h0.os, hg.tape.trans h0.tape, hg.output.trans h0.output, Nat.le_trans h0.size hg.size, fun k hk _ => ?_⟩
  rw [hg.block k (Nat.lt_of_lt_of_le hk h0.size) (fun e => by have := (h.lt k e.symm).1; omega)]
  exact h0.block k hk (by simp)
theorem D2.appA (h : D2 w0 B vA vB rA rB nA nB xA xB W) {W' : World} {v' : Value} {n' : Nat} {xs : List Value} (ho : W'.ownsRow w0.heap.size 3 1 v' n' xs) (hg : W.grownBy W' rA.ownBlock) (hat : v'.ownBlock = rA.ownBlock ∨ v'.ownBlock = some W.heap.size) : D2 w0 B vA vB v' rB n' nB xs xB W' := by
  have hltB : ∀ g, rB.ownBlock = some g → g < W.heap.size := fun g e => (h.b.lt g e).2
  refine ⟨grown_row h.g h.a hg, (hg.block B h.lt (fun e => h.aB e.symm)).trans h.bx, ho, row_kept h.b hg (fun g e e2 => h.ab g e e2), fun g e e2 => ?_, fun e => ?_, h.bB⟩
  · rcases hat with q | q
    · exact h.ab g (q.symm.trans e) e2
    · rw [e] at q; cases q
      exact absurd (hltB _ e2) (Nat.lt_irrefl _)
  · rcases hat with q | q
    · exact h.aB (q.symm.trans e)
    · rw [e] at q; cases q
      exact absurd h.lt (Nat.lt_irrefl _)
theorem D2.appB (h : D2 w0 B vA vB rA rB nA nB xA xB W) {W' : World} {v' : Value} {n' : Nat} {xs : List Value} (ho : W'.ownsRow w0.heap.size 3 1 v' n' xs) (hg : W.grownBy W' rB.ownBlock) (hat : v'.ownBlock = rB.ownBlock ∨ v'.ownBlock = some W.heap.size) : D2 w0 B vA vB rA v' nA n' xA xs W' := by
  have hltA : ∀ g, rA.ownBlock = some g → g < W.heap.size := fun g e => (h.a.lt g e).2
  refine ⟨grown_row h.g h.b hg, (hg.block B h.lt (fun e => h.bB e.symm)).trans h.bx, row_kept h.a hg (fun g e e2 => h.ab g e2 e), ho, fun g e e2 => ?_, h.aB, fun e => ?_⟩
  · rcases hat with q | q
    · exact h.ab g e (q.symm.trans e2)
    · rw [e2] at q; cases q
      exact absurd (hltA _ e) (Nat.lt_irrefl _)
  · rcases hat with q | q
    · exact h.bB (q.symm.trans e)
    · rw [e] at q; cases q
      exact absurd h.lt (Nat.lt_irrefl _)

/-- A slice of one number that was just made, apart from the rows and the box. -/
structure One1 (g : Nat) (x : Int) (B : Nat) (rA rB : Value) (W : World) : Prop where
  c : W.heap[g]? = some (.cells #[.int .i64 x] 3 (0, 0))
  nA : rA.ownBlock ≠ some g
  nB : rB.ownBlock ≠ some g
theorem One1.cell {g : Nat} {x : Int} (h : One1 g x B rA rB W) : ∀ j u, [Value.int .i64 x][j]? = some u → W.cell? ((⟨g, 0, none⟩ : Addr).add j) = some u := by
  intro j u hu
  cases j with
  | zero =>
    simp at hu; subst hu
    simp [Addr.add, World.cell?, h.c]
  | succ m => simp at hu
theorem One1.new (h : D2 w0 B vA vB rA rB nA nB xA xB W) (x : Int) : One1 W.heap.size x B rA rB (W.alloc (.cells #[.int .i64 x] 3)) :=
  ⟨heap_alloc_new W _, fun e => absurd (h.a.lt _ e).2 (Nat.lt_irrefl _), fun e => absurd (h.b.lt _ e).2 (Nat.lt_irrefl _)⟩
theorem One1.alloc {g : Nat} {x : Int} (h : One1 g x B rA rB W) (o : Obj) : One1 g x B rA rB (W.alloc o) :=
  ⟨((World.grownBy_alloc W o none).block g (Array.getElem?_eq_some_iff.1 h.c).1 (by simp)).trans h.c, h.nA, h.nB⟩
theorem One1.appA {g : Nat} {x : Int} (h : One1 g x B rA rB W) {W' : World} {v' : Value} (hg : W.grownBy W' rA.ownBlock) (hat : v'.ownBlock = rA.ownBlock ∨ v'.ownBlock = some W.heap.size) : One1 g x B v' rB W' := by
  have hlt := (Array.getElem?_eq_some_iff.1 h.c).1
  refine ⟨(hg.block g hlt (fun e => h.nA e.symm)).trans h.c, fun e => ?_, h.nB⟩
  rcases hat with q | q
  · exact h.nA (q.symm.trans e)
  · rw [e] at q; cases q; exact absurd hlt (Nat.lt_irrefl _)
theorem One1.appB {g : Nat} {x : Int} (h : One1 g x B rA rB W) {W' : World} {v' : Value} (hg : W.grownBy W' rB.ownBlock) (hat : v'.ownBlock = rB.ownBlock ∨ v'.ownBlock = some W.heap.size) : One1 g x B rA v' W' := by
  have hlt := (Array.getElem?_eq_some_iff.1 h.c).1
  refine ⟨(hg.block g hlt (fun e => h.nB e.symm)).trans h.c, h.nA, fun e => ?_⟩
  rcases hat with q | q
  · exact h.nB (q.symm.trans e)
  · rw [e] at q; cases q; exact absurd hlt (Nat.lt_irrefl _)
end

end Go.Proofs.Ytfeefijaahjheaa
