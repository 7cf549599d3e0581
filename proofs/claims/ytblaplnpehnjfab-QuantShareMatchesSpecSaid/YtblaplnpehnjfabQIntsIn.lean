/- Numbers that come in as an argument: their cells. -/
import Derived.Test.YtblaplnpehnjfabQShare
import Derived.Lib.SmallJoins
import Derived.Deep.Slices
import Derived.ChangeSame
import Derived.ChangeSlices
import Derived.ProofKit
namespace Go.Proofs.Ytblaplnpehnjfab
open Go.Joins Go.ChangeShapes Go.WideShapes Go.RowKit Go.Deep

theorem addr_add_i {a : Addr} (h : a.spot = none) (n : Nat) : a.add n = ⟨a.block, a.off + n, none⟩ := by
  obtain ⟨b, o, s⟩ := a
  simp only at h
  subst h
  unfold Addr.add
  split
  · rename_i h; subst h; rfl
  · rfl
theorem cells_one_int : Try.prog.cellsOf 3 = 1 := by kernel_rfl

set_option maxRecDepth 100000 in
theorem ints_in {H : Type} {enc : TypeId × Value → H} {w : World} {base : Nat} {spare : Nat → Bool} {held : Bool} {r : Reach} {b0 : Nat} {v : Value} {d : DataW H} {p : List MemPlace}
    (hv : Value.okWide Try.prog w r b0 50 v) (h : DataW.Trod enc Try.prog w base spare held 50 v d p) :
    ∃ (ao : Option Addr) (cap : Nat) (ws : List Int), v = .slice ao ws.length cap ∧ (ws.length : Int) ≤ 9223372036854775807 ∧ IntsAt w ao ws := by
  obtain ⟨a0, len, cap, rfl⟩ := okWide_slice Try.underlying50 hv
  obtain ⟨fuel, hf⟩ := h
  rcases open_ints Try.underlying50 Try.underlying3 cells_one_int hf with ⟨hcs, _⟩ | ⟨a, len', cap', zs, hcs, _, hl, hm, hz, _, hcell, _⟩
  · simp [Value.cells] at hcs
    obtain ⟨rfl, rfl, rfl⟩ := hcs
    exact ⟨none, 0, [], rfl, by simp, ⟨fun _ => rfl, fun a h => by simp at h, fun a h => by simp at h⟩⟩
  · simp [Value.cells] at hcs
    obtain ⟨rfl, rfl, rfl⟩ := hcs
    have hlz : len ≤ zs.length := by rw [hz]; split <;> omega
    have hlen : (zs.take len).length = len := by rw [List.length_take]; omega
    have hn : ∀ i, i < len → nth (zs.take len) i = zs.getD i 0 := fun i hi => by
      rw [nth_take hi]; simp [nth]
    have hsp : 0 < len → a.spot = none := fun h0 => by
      have := hcell 0 (by omega)
      simpa [Addr.add] using World.cell?_spot this
    refine ⟨some a, cap, zs.take len, by rw [hlen], ?_, ⟨fun h => by simp at h, fun a' h hne => ?_, fun a' h i hi => ?_⟩⟩
    · rw [hlen]
      unfold maxLen at hm
      omega
    · cases h
      refine hsp ?_
      cases len with
      | zero => simp at hne
      | succ n => omega
    · cases h
      rw [hlen] at hi
      have := hcell i (by omega)
      rw [addr_add_i (hsp (by omega))] at this
      rw [hn i hi]; exact this
end Go.Proofs.Ytblaplnpehnjfab
