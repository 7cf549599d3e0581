/- A list of numbers in memory; what the checks of streams and of zones return, purely. -/
import Derived.Test.YtgkhhfojioepgaaBaseA
namespace Go.Proofs.Ytgkhhfojioepgaa
open Go.RowKit
set_option linter.unusedSimpArgs false
set_option linter.unusedVariables false

def nthI (l : List Int) (i : Nat) : Int := l.getD i 0
theorem nthI_at {l : List Int} {i : Nat} (h : i < l.length) : nthI l i = l[i] := by
  unfold nthI; rw [List.getD_eq_getElem?_getD, List.getElem?_eq_getElem h]; rfl

structure IntsAt (w : World) (ao : Option Addr) (l : List Int) : Prop where
  nil : ao = none → l = []
  spot : ∀ a, ao = some a → l ≠ [] → a.spot = none
  cells : ∀ a, ao = some a → ∀ i, i < l.length → w.cell? ⟨a.block, a.off + i, none⟩ = some (.int .i64 (nthI l i))
theorem IntsAt.grown {w w' : World} {ao : Option Addr} {l : List Int} (h : IntsAt w ao l) (g : w.grownBy w' none) : IntsAt w' ao l :=
  ⟨h.nil, h.spot, fun a ha i hi => grown_cell g (h.cells a ha i hi)⟩
theorem IntsAt.at {w : World} {ao : Option Addr} {l : List Int} (h : IntsAt w ao l) (hne : 0 < l.length) : ∃ b off, ao = some ⟨b, off, none⟩ ∧ ∀ i, i < l.length → w.cell? ⟨b, off + i, none⟩ = some (.int .i64 (nthI l i)) := by
  have hn : l ≠ [] := fun e => by rw [e] at hne; simp at hne
  cases hao : ao with
  | none => exact absurd (h.nil hao) hn
  | some a =>
    obtain ⟨b, off, s⟩ := a
    have hs := h.spot _ hao hn
    simp only at hs
    subst hs
    exact ⟨b, off, rfl, fun i hi => h.cells _ hao i hi⟩

def eachE (lo hi : Int) : List Int → Int
  | [] => 0
  | x :: r => if lo ≤ x ∧ x ≤ hi then eachE lo hi r else 9
theorem eachE_end {lo hi : Int} {l : List Int} {k : Nat} (h : l.length ≤ k) : eachE lo hi (l.drop k) = 0 := by
  rw [List.drop_eq_nil_of_le h]; rfl
theorem eachE_at {lo hi : Int} {l : List Int} {k : Nat} (h : k < l.length) : eachE lo hi (l.drop k) = if lo ≤ nthI l k ∧ nthI l k ≤ hi then eachE lo hi (l.drop (k + 1)) else 9 := by
  rw [List.drop_eq_getElem_cons h, eachE, nthI_at h]
theorem each_in {lo hi : Int} : ∀ {l : List Int}, eachE lo hi l = 0 → ∀ x ∈ l, lo ≤ x ∧ x ≤ hi
  | [], _, x, hx => by simp at hx
  | y :: r, h, x, hx => by
    unfold eachE at h
    split at h
    · rename_i hy
      rcases List.mem_cons.1 hx with rfl | hx
      · exact hy
      · exact each_in h x hx
    · omega
theorem each_nth {lo hi : Int} {l : List Int} (h : eachE lo hi l = 0) {k : Nat} (hk : k < l.length) : lo ≤ nthI l k ∧ nthI l k ≤ hi := by
  rw [nthI_at hk]; exact each_in h _ (List.getElem_mem hk)

def soonI : Option Int → Int → Bool
  | none, _ => false
  | some q, x => decide (x ≤ q)
def risingE (lo hi : Int) : Option Int → List Int → Int
  | _, [] => 0
  | p, x :: r => if lo ≤ x ∧ x ≤ hi then (if soonI p x = true then 10 else risingE lo hi (some x) r) else 9
def prevI (l : List Int) : Nat → Option Int
  | 0 => none
  | k + 1 => some (nthI l k)
theorem risingE_end {lo hi : Int} {p : Option Int} {l : List Int} {k : Nat} (h : l.length ≤ k) : risingE lo hi p (l.drop k) = 0 := by
  rw [List.drop_eq_nil_of_le h]; cases p <;> rfl
theorem risingE_at {lo hi : Int} {p : Option Int} {l : List Int} {k : Nat} (h : k < l.length) : risingE lo hi p (l.drop k) = if lo ≤ nthI l k ∧ nthI l k ≤ hi then (if soonI p (nthI l k) = true then 10 else risingE lo hi (prevI l (k + 1)) (l.drop (k + 1))) else 9 := by
  rw [List.drop_eq_getElem_cons h, risingE, prevI, nthI_at h]

/-- What CheckStream returns, and CheckZones. -/
def streamE (l : List Int) : Int := if (l.length : Int) ≤ 1000000 then eachE (-1) 1000000000 l else 3
def zonesE (l : List Int) : Int := if (l.length : Int) ≤ 20 then risingE 0 1000000000 none l else 3
theorem stream_ok {l : List Int} (h : streamE l = 0) : (l.length : Int) ≤ 1000000 ∧ ∀ k, k < l.length → -1 ≤ nthI l k ∧ nthI l k ≤ 1000000000 := by
  unfold streamE at h
  split at h
  · rename_i hl
    exact ⟨hl, fun k hk => each_nth h hk⟩
  · omega
theorem zones_len {l : List Int} (h : zonesE l = 0) : (l.length : Int) ≤ 20 := by
  unfold zonesE at h
  split at h
  · assumption
  · omega

end Go.Proofs.Ytgkhhfojioepgaa
