/- A zone that comes in as an argument: its cells. -/
import Derived.Test.YtfgemdfloeknfaaQZone
import Derived.Lib.SmallJoins
import Derived.Deep.Slices
import Derived.Deep.Fields
import Derived.ChangeSame
namespace Go.Proofs.Ytfgemdfloeknfaa
open Go.Joins Go.ChangeShapes Go.WideShapes Go.RowKit Go.Deep

theorem addr_add {a : Addr} (h : a.spot = none) (n : Nat) : a.add n = ⟨a.block, a.off + n, none⟩ := by
  obtain ⟨b, o, s⟩ := a
  simp only at h
  subst h
  unfold Addr.add
  split
  · rename_i h; subst h; rfl
  · rfl

theorem cells_zone : Try.prog.cellsOf 40 = 2 := by kernel_rfl
theorem cells_change : Try.prog.cellsOf 70 = 2 := by kernel_rfl
theorem cells_int : Try.prog.cellsOf 3 = 1 := by kernel_rfl

section
variable {H : Type} {enc : TypeId × Value → H} {w : World} {base : Nat} {spare : Nat → Bool} {held : Bool}

/-- A change that was read: two numbers. -/
theorem change_in {n : Nat} {a : Addr} {cs : List Value} {x : DataW H × List MemPlace} (hc : w.cells? base a 2 = some cs) (h : DataW.trod enc Try.prog w base spare held n 70 cs = some x) :
    ∃ q : Int × Int, w.cell? a = some (.int .i64 q.1) ∧ w.cell? (a.add 1) = some (.int .i64 q.2) := by
  obtain ⟨_, hl, hat⟩ := World.cells?_some hc
  match cs, hl with
  | [c0, c1], _ =>
    obtain ⟨ys, n', _, _, _, hyl, hf⟩ := DataW.trod_struct Try.underlying70 h
    have h0 : DataW.trod enc Try.prog w base spare held n' 3 (List.take (Try.prog.cellsOf 3) (List.drop 0 [c0, c1])) = ys[0]? := hf 0 _ rfl
    have h1 : DataW.trod enc Try.prog w base spare held n' 3 (List.take (Try.prog.cellsOf 3) (List.drop 1 [c0, c1])) = ys[1]? := hf 1 _ rfl
    rw [cells_int] at h0 h1
    simp only [List.drop_zero, List.take_succ_cons, List.take_zero, List.drop_succ_cons] at h0 h1
    match ys, hyl with
    | [y0, y1], _ =>
      obtain ⟨f, hf0, _, _⟩ := DataW.trod_int Try.underlying3 h0
      obtain ⟨o, ho0, _, _⟩ := DataW.trod_int Try.underlying3 h1
      simp only [List.cons.injEq, and_true] at hf0 ho0
      subst hf0; subst ho0
      refine ⟨(f, o), ?_, ?_⟩
      · have := hat 0 (by omega); simpa [Addr.add] using this
      · have := hat 1 (by omega); simpa using this

theorem zone_in {r : Reach} {b0 : Nat} {v : Value} {d : DataW H} {p : List MemPlace} (hv : Value.okWide Try.prog w r b0 40 v) (h : DataW.Trod enc Try.prog w base spare held 40 v d p) :
    ∃ (first : Int) (ao : Option Addr) (cap : Nat) (cs : List (Int × Int)), v = .agg #[.int .i64 first, .slice ao cs.length cap] ∧ (cs.length : Int) ≤ 9223372036854775807 ∧ ZoneAt w ao cs := by
  obtain ⟨v0, v1, y0, y1, n, rfl, _, _, h0, h1⟩ := open_agg2 Try.underlying40 (by kernel_rfl) cells_zone hv h
  obtain ⟨first, hv0, _, _⟩ := DataW.trod_int Try.underlying3 h0
  simp only [List.cons.injEq, and_true] at hv0
  subst hv0
  rcases open_slice Try.underlying38 h1 with ⟨hcs, _⟩ | ⟨a, len, cap, m, n', D, Pl, hcs, hb, hl, hm, hmm, hx, hi⟩
  · simp only [List.cons.injEq, and_true] at hcs
    subst hcs
    exact ⟨first, none, 0, [], rfl, by simp, ⟨fun _ => rfl, fun a h => by simp at h, fun a h => by simp at h⟩⟩
  · simp only [List.cons.injEq, and_true] at hcs
    subst hcs
    have hlm : len ≤ m := by rw [hmm]; split <;> omega
    have hall : ∀ i, ∃ q : Int × Int, i < len → w.cell? (a.add (i * 2)) = some (.int .i64 q.1) ∧ w.cell? (a.add (i * 2 + 1)) = some (.int .i64 q.2) := fun i => by
      by_cases h : i < len
      · obtain ⟨cs', hc, ht⟩ := hi i (by omega)
        rw [cells_change] at hc
        obtain ⟨q, h1, h2⟩ := change_in hc ht
        rw [Go.Deep.add_add] at h2
        exact ⟨q, fun _ => ⟨h1, h2⟩⟩
      · exact ⟨(0, 0), fun h' => absurd h' h⟩
    obtain ⟨F, hF⟩ := Classical.skolem.1 hall
    have hsp : 0 < len → a.spot = none := fun h => by
      have := (hF 0 h).1
      simpa [Addr.add] using World.cell?_spot this
    refine ⟨first, some a, cap, (List.range len).map F, by simp, ?_, ⟨fun h => by simp at h, fun a' h hne => ?_, fun a' h i hi' => ?_⟩⟩
    · have : len ≤ maxLen := by omega
      simp only [List.length_map, List.length_range]
      unfold maxLen at this
      exact Int.ofNat_le.2 this
    · cases h
      exact hsp (by cases len with | zero => simp at hne | succ n => omega)
    · cases h
      simp only [List.length_map, List.length_range] at hi'
      have hs := hsp (by omega)
      have := hF i hi'
      rw [addr_add hs, addr_add hs] at this
      simpa [Nat.add_assoc] using this
end
end Go.Proofs.Ytfgemdfloeknfaa
