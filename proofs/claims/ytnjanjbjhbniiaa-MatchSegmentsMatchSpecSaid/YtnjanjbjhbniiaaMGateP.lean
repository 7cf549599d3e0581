/- Gates and segments: what CheckSegment returns, what Turned returns; how gates lie in memory. -/
import Derived.Test.YtnjanjbjhbniiaaMRows
namespace Go.Proofs.Ytnjanjbjhbniiaa
open Go.RowKit

structure Gt where
  ax : Int
  ay : Int
  bx : Int
  by_ : Int
  deriving DecidableEq, Inhabited
def inPl (x y : Int) : Prop := (-100000000 ≤ x ∧ x ≤ 100000000) ∧ (-100000000 ≤ y ∧ y ≤ 100000000)
instance (x y : Int) : Decidable (inPl x y) := by unfold inPl; infer_instance
def gate1 (g : Gt) : Int := if inPl g.ax g.ay ∧ inPl g.bx g.by_ then if g.ax = g.bx ∧ g.ay = g.by_ then 2 else 0 else 9
def gatesE : List Gt → Int
  | [] => 0
  | g :: r => if gate1 g = 0 then gatesE r else gate1 g
def segE (nm : ByteArray) (gs : List Gt) : Int := if nameB nm = true then if 2 ≤ gs.length ∧ gs.length ≤ 50 then gatesE gs else 3 else 8
def gtTurn (g : Gt) : Gt := ⟨g.bx, g.by_, g.ax, g.ay⟩
theorem gtTurn_turn (g : Gt) : gtTurn (gtTurn g) = g := rfl
theorem gate1_turn (g : Gt) : gate1 (gtTurn g) = gate1 g := by
  unfold gate1 gtTurn
  simp only
  by_cases h : inPl g.ax g.ay ∧ inPl g.bx g.by_
  · rw [if_pos h, if_pos ⟨h.2, h.1⟩]
    by_cases e : g.ax = g.bx ∧ g.ay = g.by_
    · rw [if_pos e, if_pos ⟨e.1.symm, e.2.symm⟩]
    · rw [if_neg e, if_neg (fun q => e ⟨q.1.symm, q.2.symm⟩)]
  · rw [if_neg h, if_neg (fun q => h ⟨q.2, q.1⟩)]
theorem gatesE_zero {l : List Gt} : gatesE l = 0 ↔ ∀ g ∈ l, gate1 g = 0 := by
  induction l with
  | nil => simp [gatesE]
  | cons g r ih =>
    unfold gatesE
    by_cases h : gate1 g = 0
    · rw [if_pos h, ih]; simp [h]
    · rw [if_neg h]; simp [h]
def turnG (l : List Gt) : List Gt := (l.map gtTurn).reverse
theorem turnG_turn (l : List Gt) : turnG (turnG l) = l := by
  unfold turnG
  rw [List.map_reverse, List.reverse_reverse, List.map_map]
  exact (List.map_congr_left (g := id) fun g _ => gtTurn_turn g).trans (List.map_id _)
theorem turnG_len (l : List Gt) : (turnG l).length = l.length := by unfold turnG; simp
theorem segE_turn {nm : ByteArray} {gs : List Gt} (h : segE nm gs = 0) : segE nm (turnG gs) = 0 := by
  unfold segE at *
  rw [turnG_len]
  split at h
  · rename_i h1
    rw [if_pos h1]
    split at h
    · rename_i h2
      rw [if_pos h2, gatesE_zero]
      intro g hg
      unfold turnG at hg
      rw [List.mem_reverse] at hg
      obtain ⟨x, hx, rfl⟩ := List.mem_map.1 hg
      rw [gate1_turn]
      exact gatesE_zero.1 h x hx
    · omega
  · omega
theorem gate1_in {g : Gt} (h : gate1 g = 0) : inPl g.ax g.ay ∧ inPl g.bx g.by_ := by
  unfold gate1 at h
  split at h
  · assumption
  · omega

def gtCs (g : Gt) : List Value := [.int .i64 g.ax, .int .i64 g.ay, .int .i64 g.bx, .int .i64 g.by_]
abbrev GatesAt (w : World) (ao : Option Addr) (l : List Gt) : Prop := RowsAt gtCs 4 w ao l
theorem gates_at {w : World} {ao : Option Addr} {l : List Gt} (h : GatesAt w ao l) (hl : 0 < l.length) : ∃ g o, ao = some ⟨g, o, none⟩ ∧ ∀ i (hi : i < l.length), w.cell? ⟨g, o + i * 4, none⟩ = some (.int .i64 l[i].ax) ∧ w.cell? ⟨g, o + i * 4 + 1, none⟩ = some (.int .i64 l[i].ay) ∧ w.cell? ⟨g, o + i * 4 + 2, none⟩ = some (.int .i64 l[i].bx) ∧ w.cell? ⟨g, o + i * 4 + 3, none⟩ = some (.int .i64 l[i].by_) := by
  obtain ⟨g, o, e, q⟩ := rows_at h hl
  exact ⟨g, o, e, fun i hi => ⟨q i hi 0 _ rfl, q i hi 1 _ rfl, q i hi 2 _ rfl, q i hi 3 _ rfl⟩⟩
def gtRw (l : List Gt) : List Value := l.flatMap gtCs
theorem gtRw_snoc (l : List Gt) (x : Gt) : gtRw (l ++ [x]) = gtRw l ++ gtCs x := by unfold gtRw; simp
end Go.Proofs.Ytnjanjbjhbniiaa
