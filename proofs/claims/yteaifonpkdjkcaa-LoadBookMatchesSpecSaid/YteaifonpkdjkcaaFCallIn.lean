/- A book's calls that come in as an argument: their cells. -/
import Derived.Test.YteaifonpkdjkcaaTActIn
import Derived.Test.YteaifonpkdjkcaaFCalls
namespace Go.Proofs.Yteaifonpkdjkcaa
open Go.Joins Go.ChangeShapes Go.WideShapes Go.RowKit Go.Deep
set_option linter.unusedSimpArgs false
set_option linter.unusedVariables false

section
variable {H : Type} {enc : TypeId × Value → H} {w : World} {base : Nat} {spare : Nat → Bool} {held : Bool} {r : Reach} {b0 : Nat}

theorem callD_range (n : Nat) (F : Nat → CallV) {i : Nat} (hi : i < n) : callD ((List.range n).map F) i = F i := by
  unfold callD; rw [List.getD_eq_getElem?_getD]; simp [hi]
theorem calls_made {a : Addr} {len cap : Nat} (hl : len ≤ cap) (hm : cap ≤ maxLen)
    (hall : ∀ i, ∃ q : CallV, i < len → w.cell? ((a.add (i * 3)).add 0) = some (.int .i64 q.op) ∧ w.cell? ((a.add (i * 3)).add 1) = some (.int .i64 q.x) ∧ w.cell? ((a.add (i * 3)).add 2) = some (.int .i64 q.y)) :
    ∃ l : List CallV, len = l.length ∧ (l.length : Int) ≤ 9223372036854775807 ∧ CallsAt w (some a) l ∧ l.length ≤ cap := by
  obtain ⟨F, hF⟩ := Classical.skolem.1 hall
  have hsp : 0 < len → a.spot = none := fun h => by
    have := (hF 0 h).1
    simpa [Addr.add] using World.cell?_spot this
  refine ⟨(List.range len).map F, by simp, ?_, ⟨fun h => by simp at h, fun a' h hne => ?_, fun a' h i hi' => ?_⟩, by simpa using hl⟩
  · unfold maxLen at hm
    simp only [List.length_map, List.length_range]
    omega
  · cases h
    exact hsp (by cases len with | zero => simp at hne | succ n => omega)
  · cases h
    simp only [List.length_map, List.length_range] at hi'
    rw [callD_range len F hi']
    have q := hF i hi'
    have sp := hsp (by omega)
    have e1 : (a.add (i * 3)).add 0 = ⟨a.block, a.off + i * 3, none⟩ := by rw [addr_plus sp, addr_plus rfl]; rfl
    have e2 : (a.add (i * 3)).add 1 = ⟨a.block, a.off + i * 3 + 1, none⟩ := by rw [addr_plus sp, addr_plus rfl]
    have e3 : (a.add (i * 3)).add 2 = ⟨a.block, a.off + i * 3 + 2, none⟩ := by rw [addr_plus sp, addr_plus rfl]
    rw [e1, e2, e3] at q
    exact q

theorem cells_call : Try.prog.cellsOf 100 = 3 := by kernel_rfl
set_option maxRecDepth 100000 in
theorem calls_in {v : Value} {d : DataW H} {p : List MemPlace} (hv : Value.okWide Try.prog w r b0 92 v) (h : DataW.Trod enc Try.prog w base spare held 92 v d p) :
    ∃ (ao : Option Addr) (cap : Nat) (l : List CallV), v = .slice ao l.length cap ∧ (l.length : Int) ≤ 9223372036854775807 ∧ CallsAt w ao l ∧ l.length ≤ cap := by
  obtain ⟨a0, len0, cap0, rfl⟩ := okWide_slice Try.underlying92 hv
  obtain ⟨fuel, hf⟩ := h
  rcases open_slice Try.underlying92 hf with ⟨hcs, _⟩ | ⟨a, len, cap, m, n', D, Pl, hcs, hb, hl, hm, hmm, hx, hi⟩
  · simp [Value.cells] at hcs
    obtain ⟨rfl, rfl, rfl⟩ := hcs
    exact ⟨none, 0, [], rfl, by simp, ⟨fun _ => rfl, fun a h => by simp at h, fun a h => by simp at h⟩, Nat.le_refl _⟩
  · simp [Value.cells] at hcs
    obtain ⟨rfl, rfl, rfl⟩ := hcs
    have hlm : len0 ≤ m := by rw [hmm]; split <;> omega
    have hall : ∀ i, ∃ q : CallV, i < len0 → w.cell? ((a.add (i * 3)).add 0) = some (.int .i64 q.op) ∧ w.cell? ((a.add (i * 3)).add 1) = some (.int .i64 q.x) ∧ w.cell? ((a.add (i * 3)).add 2) = some (.int .i64 q.y) := fun i => by
      by_cases h : i < len0
      · obtain ⟨cs', hc, ht⟩ := hi i (by omega)
        obtain ⟨ys, n2, _, hf⟩ := field_in Try.underlying100 (by kernel_rfl) (by kernel_rfl) hc ht
        rw [cells_call] at hf
        obtain ⟨v0, y0, c0, _, t0⟩ := hf 0 _ rfl
        obtain ⟨v1, y1, c1, _, t1⟩ := hf 1 _ rfl
        obtain ⟨v2, y2, c2, _, t2⟩ := hf 2 _ rfl
        obtain ⟨z0, rfl⟩ := int_in t0
        obtain ⟨z1, rfl⟩ := int_in t1
        obtain ⟨z2, rfl⟩ := int_in t2
        exact ⟨⟨z0, z1, z2⟩, fun _ => ⟨c0, c1, c2⟩⟩
      · exact ⟨⟨0, 0, 0⟩, fun h' => absurd h' h⟩
    obtain ⟨l, rfl, hl2, hp, hc⟩ := calls_made hl hm hall
    exact ⟨some a, cap0, l, rfl, hl2, hp, hc⟩
end

end Go.Proofs.Yteaifonpkdjkcaa
