/- Efforts, purely and in memory: what crossings make of rows of gates; lists of lists of numbers. -/
import Derived.Test.YtckelojdjmaliaaMLawCross
namespace Go.Proofs.Ytckelojdjmaliaa
open Go.RowKit

def ic (x : Int) : List Value := [.int .i64 x]
/-- An effort in memory: the block of its numbers, how many fit, and the numbers. -/
structure EffV where
  blk : Nat
  cap : Nat
  at_ : List Int
def efC (e : EffV) : List Value := [.slice (some ⟨e.blk, 0, none⟩) e.at_.length e.cap]
structure EffAt (w : World) (ao : Option Addr) (M : List (List Int)) (L : List EffV) : Prop where
  lists : L.map (·.at_) = M
  row : RowsAt efC 1 w ao L
  each : ∀ e ∈ L, RowsAt ic 1 w (some ⟨e.blk, 0, none⟩) e.at_
theorem EffAt.grown {w w' : World} {ao : Option Addr} {M : List (List Int)} {L : List EffV} (h : EffAt w ao M L) (g : w.grownBy w' none) : EffAt w' ao M L :=
  ⟨h.lists, h.row.grown g, fun e he => (h.each e he).grown g⟩
theorem EffAt.len {w : World} {ao : Option Addr} {M : List (List Int)} {L : List EffV} (h : EffAt w ao M L) : L.length = M.length := by rw [← h.lists, List.length_map]

/-- One crossing more: the efforts that are done, and the one that is begun. -/
def effS (n : Nat) (st : List (List Int) × List Int) (c : Crs) : List (List Int) × List Int :=
  if c.gate = 0 then (st.1, [c.at_])
  else if c.gate = (st.2.length : Int) then (if st.2.length + 1 = n then (st.1 ++ [st.2 ++ [c.at_]], []) else (st.1, st.2 ++ [c.at_]))
  else st
def crD (l : List Crs) (i : Nat) : Crs := l.getD i ⟨0, 0, 0⟩
theorem crD_at {l : List Crs} {i : Nat} (h : i < l.length) : crD l i = l[i] := by unfold crD; rw [List.getD_eq_getElem?_getD, List.getElem?_eq_getElem h]; rfl
def effK (n : Nat) (l : List Crs) : Nat → List (List Int) × List Int
  | 0 => ([], [])
  | k + 1 => effS n (effK n l k) (crD l k)
theorem effS_lt {n : Nat} (hn : 2 ≤ n) {st : List (List Int) × List Int} (c : Crs) (h : st.2.length < n) : (effS n st c).2.length < n := by
  unfold effS
  split
  · simp; omega
  · split
    · split
      · simp; omega
      · simp only [List.length_append, List.length_cons, List.length_nil]; omega
    · exact h
theorem effK_lt {n : Nat} (hn : 2 ≤ n) (l : List Crs) : ∀ k, (effK n l k).2.length < n
  | 0 => by simp [effK]; omega
  | k + 1 => effS_lt hn _ (effK_lt hn l k)
theorem effS_full {n : Nat} {st : List (List Int) × List Int} (c : Crs) (h : ∀ x ∈ st.1, x.length = n) : ∀ x ∈ (effS n st c).1, x.length = n := by
  unfold effS
  split
  · exact h
  · split
    · split
      · rename_i hl
        intro x hx
        rcases List.mem_append.1 hx with q | q
        · exact h x q
        · rw [List.mem_singleton] at q; subst q; simp; exact hl
      · exact h
    · exact h
theorem effK_full (n : Nat) (l : List Crs) : ∀ k, ∀ x ∈ (effK n l k).1, x.length = n
  | 0 => by simp [effK]
  | k + 1 => effS_full _ (effK_full n l k)
theorem effK_many {n : Nat} (l : List Crs) : ∀ k, (effK n l k).1.length ≤ k
  | 0 => by simp [effK]
  | k + 1 => by
    have h := effK_many (n := n) l k
    show (effS n (effK n l k) (crD l k)).1.length ≤ _
    unfold effS
    repeat' split
    all_goals first
      | omega
      | (simp only [List.length_append, List.length_cons, List.length_nil]; omega)
      | (simp; omega)
def effL (s : Seg) (a : Act) : List (List Int) := if crsE s a = 0 then (effK s.gs.length (crsL (SLc s.gs a.ss) s a) (crsL (SLc s.gs a.ss) s a).length).1 else []
theorem effL_full {s : Seg} {a : Act} : ∀ x ∈ effL s a, x.length = s.gs.length := by
  unfold effL
  split
  · exact effK_full _ _ _
  · intro x hx; cases hx
theorem effL_len (s : Seg) (a : Act) : (effL s a).length ≤ 1000000 := by
  unfold effL
  split
  · have := effK_many (n := s.gs.length) (crsL (SLc s.gs a.ss) s a) (crsL (SLc s.gs a.ss) s a).length; have := crsL_len s a; omega
  · simp
theorem ic_flat (l : List Int) : (l.flatMap ic).length = l.length := by rw [mflat_len ic 1 (fun _ => rfl)]; omega
theorem rowN {α : Type} {cs : α → List Value} {K : Nat} {w : World} {base e n : Nat} {v : Value} {l : List α} (hcs : ∀ x, (cs x).length = K) (h : w.ownsRow base e K v n (l.flatMap cs)) (hl : l.length = n) : ∃ ao cap, v = .slice ao n cap ∧ RowsAt cs K w ao l ∧ v.ownBlock = ao.map (·.block) := by
  subst hl
  obtain ⟨ao, cap, hv, _, hr, _⟩ := own_rows (cs := cs) hcs h
  refine ⟨ao, cap, hv, hr, ?_⟩
  rw [hv]; cases ao <;> rfl
end Go.Proofs.Ytckelojdjmaliaa
