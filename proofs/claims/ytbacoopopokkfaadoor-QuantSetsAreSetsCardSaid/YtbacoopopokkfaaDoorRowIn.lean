/- Slices of structs of plain cells that come in as an argument: their cells, and how many they can be. No program of its own. -/
import Derived.Test.YtbacoopopokkfaaDoorMRows
import Derived.Lib.SmallJoins
import Derived.Deep.Slices
import Derived.Deep.Fields
import Derived.ChangeSame
import Derived.ChangeSlices
import Derived.ProofKit
import Derived.SizedLaws
namespace Go.Proofs.YtbacoopopokkfaaDoor
open Go.Joins Go.ChangeShapes Go.WideShapes Go.RowKit Go.Deep
set_option linter.unusedSimpArgs false
set_option linter.unusedVariables false

theorem addr_plusR {a : Addr} (h : a.spot = none) (n : Nat) : a.add n = ⟨a.block, a.off + n, none⟩ := by
  obtain ⟨b, o, s⟩ := a
  simp only at h
  subst h
  unfold Addr.add
  split
  · rename_i h; subst h; rfl
  · rfl
section
variable {P : Program} {H : Type} {enc : TypeId × Value → H} {w : World} {base : Nat} {spare : Nat → Bool} {held : Bool} {r : Reach} {b0 : Nat}
theorem int_inR {t : TypeId} (ht : P.underlying t = some (.int .i64)) {n : Nat} {v : Value} {y : DataW H × List MemPlace} (h : DataW.trod enc P w base spare held n t [v] = some y) : ∃ z : Int, v = .int .i64 z := by
  obtain ⟨z, hz, _, _⟩ := DataW.trod_int ht h
  simp only [List.cons.injEq, and_true] at hz
  exact ⟨z, hz⟩
theorem bool_inR {t : TypeId} (ht : P.underlying t = some .bool) {n : Nat} {v : Value} {y : DataW H × List MemPlace} (h : DataW.trod enc P w base spare held n t [v] = some y) : ∃ z : Bool, v = .bool z := by
  obtain ⟨z, hz, _⟩ := DataW.trod_bool ht h
  simp only [List.cons.injEq, and_true] at hz
  exact ⟨z, hz⟩
theorem fields_inR {t : TypeId} {fs : Array Field} {fuel : Nat} {cs : List Value} {x : DataW H × List MemPlace} (ht : P.underlying t = some (.struct fs)) (h : DataW.trod enc P w base spare held fuel t cs = some x) :
    cs.length = P.cellsOf t ∧ ∃ n, ∀ (i : Nat) (f : Field), fs[i]? = some f → ∃ y, DataW.trod enc P w base spare held n f.type ((cs.drop f.offset).take (P.cellsOf f.type)) = some y := by
  obtain ⟨xs, n, _, _, hl, hlen, hf⟩ := DataW.trod_struct ht h
  refine ⟨hl, n, fun i f hi => ?_⟩
  have hlt : i < xs.length := by rw [hlen]; exact (Array.getElem?_eq_some_iff.1 hi).1
  exact ⟨xs[i], by rw [hf i f hi, List.getElem?_eq_getElem hlt]⟩
/-- A slice of structs of K cells that was read. -/
theorem rows_inR {α : Type} [Inhabited α] {cs : α → List Value} {K : Nat} {t e : TypeId} (hK : P.cellsOf e = K) (h1 : 0 < K) (hlen : ∀ x, (cs x).length = K) (ht : P.underlying t = some (.slice e))
    (hcell : ∀ {n : Nat} {l : List Value} {x : DataW H × List MemPlace}, DataW.trod enc P w base spare held n e l = some x → ∃ p : α, l = cs p)
    {fuel : Nat} {v : Value} {y : DataW H × List MemPlace} (h : DataW.trod enc P w base spare held fuel t [v] = some y) :
    ∃ (ao : Option Addr) (cap : Nat) (l : List α), v = .slice ao l.length cap ∧ l.length ≤ cap ∧ (cap : Int) ≤ 9223372036854775807 ∧ RowsAt cs K w ao l := by
  rcases open_slice ht h with ⟨hcs, _⟩ | ⟨a, len, cap, m, n', D, Pl, hcs, hb, hl, hm, hmm, hx, hi⟩
  · simp only [List.cons.injEq, and_true] at hcs
    exact ⟨none, 0, [], hcs, Nat.le_refl _, by simp, rows_empty _⟩
  · simp only [List.cons.injEq, and_true] at hcs
    subst hcs
    rw [hK] at hi
    have hlm : len ≤ m := by rw [hmm]; split <;> omega
    have hall : ∀ i, ∃ q : α, i < len → ∀ k u, (cs q)[k]? = some u → w.cell? ((a.add (i * K)).add k) = some u := fun i => by
      by_cases h : i < len
      · obtain ⟨cs', hc, ht⟩ := hi i (by omega)
        obtain ⟨q, rfl⟩ := hcell ht
        obtain ⟨_, _, hat⟩ := World.cells?_some hc
        refine ⟨q, fun _ k u hu => ?_⟩
        have hk : k < K := by rw [← hlen q]; exact (List.getElem?_eq_some_iff.1 hu).1
        rw [hat k hk, hu]
      · exact ⟨default, fun h' => absurd h' h⟩
    obtain ⟨F, hF⟩ := Classical.skolem.1 hall
    have hsp : 0 < len → a.spot = none := fun h => by
      have hv : (cs (F 0))[0]? = some ((cs (F 0))[0]'(by rw [hlen]; exact h1)) := List.getElem?_eq_getElem _
      have := hF 0 h 0 _ hv
      simpa [Addr.add] using World.cell?_spot this
    refine ⟨some a, cap, (List.range len).map F, by simp, by simpa using hl, ?_, ⟨fun h => by simp at h, fun a' h hne => ?_, fun a' h i hi' k u hu => ?_⟩⟩
    · unfold maxLen at hm
      exact Int.ofNat_le.2 hm
    · cases h
      exact hsp (by cases len with | zero => simp at hne | succ n => omega)
    · cases h
      simp only [List.length_map, List.length_range] at hi'
      have hs := hsp (by omega)
      rw [List.getElem_map, List.getElem_range] at hu
      have := hF i hi' k u hu
      rw [addr_plusR hs, addr_plusR (a := ⟨a.block, a.off + i * K, none⟩) rfl] at this
      exact this
/-- A slice takes no more memory than there is. -/
theorem bytes_inR {t e : TypeId} {b : Nat} (ht : P.underlying t = some (.slice e)) (hb : P.bytesOf e = b) {fuel : Nat} {ao : Option Addr} {n cap : Nat} {y : DataW H × List MemPlace} (h : DataW.trod enc P w base spare held fuel t [.slice ao n cap] = some y) (hz : ∀ m ∈ y.1.weights P t, m ≤ reachBytes) : n * b ≤ 140737488355328 := by
  rcases open_slice ht h with ⟨hcs, _⟩ | ⟨a, len, cp, m, n', D, Pl, hcs, hb2, hl, hm, hmm, hx, hi⟩
  · simp only [List.cons.injEq, and_true, Value.slice.injEq] at hcs
    rw [hcs.2.1]; simp
  · simp only [List.cons.injEq, and_true, Value.slice.injEq] at hcs
    subst hx
    have q := hz ((((List.range len).map D).length + ((List.range (m - len)).map fun j => D (len + j)).length) * P.bytesOf e) (by simp only [DataW.weights, ht, List.mem_cons, true_or])
    rw [hb] at q
    simp only [List.length_map, List.length_range] at q
    have r : reachBytes ≤ 140737488355328 := by decide
    have e : n = len := hcs.2.1
    rw [e]
    have : len * b ≤ (len + (m - len)) * b := Nat.mul_le_mul_right _ (by omega)
    omega
theorem sized_atR {ts : List TypeId} {ds : List (DataW H)} (h : (DataW.weightsEach P ts ds).all (· ≤ reachBytes) = true) {j : Nat} {t : TypeId} {d : DataW H} (ht : ts[j]? = some t) (hd : ds[j]? = some d) : ∀ m ∈ d.weights P t, m ≤ reachBytes := fun m hm => by
  simpa using List.all_eq_true.1 h m (DataW.weights_mem_each ht hd m hm)
end
end Go.Proofs.YtbacoopopokkfaaDoor
