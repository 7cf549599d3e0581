/- Segments and lists of places that come in as arguments: their cells. -/
import Derived.Test.YtnjanjbjhbniiaaTActIn
import Derived.Test.YtnjanjbjhbniiaaMGateP
import Derived.Test.YtnjanjbjhbniiaaMPt
namespace Go.Proofs.Ytnjanjbjhbniiaa
open Go.Joins Go.ChangeShapes Go.WideShapes Go.RowKit Go.Deep

theorem cells_pt : Try.prog.cellsOf 64 = 2 := by kernel_rfl
theorem cells_gate : Try.prog.cellsOf 73 = 4 := by kernel_rfl
section
variable {H : Type} {enc : TypeId × Value → H} {w : World} {base : Nat} {spare : Nat → Bool} {held : Bool} {r : Reach} {b0 : Nat}

set_option maxRecDepth 100000 in
theorem pt_cells {n : Nat} {cs : List Value} {x : DataW H × List MemPlace} (h : DataW.trod enc Try.prog w base spare held n 64 cs = some x) : ∃ p : Pt, cs = ptCs p := by
  obtain ⟨y0, y1, n', rfl, hl, h0, h1⟩ := trod_struct2 Try.underlying64 h
  rw [cells_pt] at hl
  match cs, hl with
  | [c0, c1], _ =>
    obtain ⟨z0, e0⟩ := int_in (v := c0) h0
    obtain ⟨z1, e1⟩ := int_in (v := c1) h1
    subst e0; subst e1
    exact ⟨⟨z0, z1⟩, rfl⟩
set_option maxRecDepth 100000 in
theorem gate_cells {n : Nat} {cs : List Value} {x : DataW H × List MemPlace} (h : DataW.trod enc Try.prog w base spare held n 73 cs = some x) : ∃ g : Gt, cs = gtCs g := by
  obtain ⟨y0, y1, n', rfl, hl, h0, h1⟩ := trod_struct2 Try.underlying73 h
  rw [cells_gate] at hl
  match cs, hl with
  | [c0, c1, c2, c3], _ =>
    obtain ⟨p, e0⟩ := pt_cells (cs := [c0, c1]) h0
    obtain ⟨q, e1⟩ := pt_cells (cs := [c2, c3]) h1
    simp only [ptCs, List.cons.injEq, and_true] at e0 e1
    obtain ⟨rfl, rfl⟩ := e0
    obtain ⟨rfl, rfl⟩ := e1
    exact ⟨⟨p.x, p.y, q.x, q.y⟩, rfl⟩

/-- A slice of structs of K cells that was read. -/
theorem rows_in {α : Type} [Inhabited α] {cs : α → List Value} {K : Nat} {t e : TypeId} (hK : Try.prog.cellsOf e = K) (h1 : 0 < K) (hlen : ∀ x, (cs x).length = K) (ht : Try.prog.underlying t = some (.slice e))
    (hcell : ∀ {n : Nat} {l : List Value} {x : DataW H × List MemPlace}, DataW.trod enc Try.prog w base spare held n e l = some x → ∃ p : α, l = cs p)
    {fuel : Nat} {v : Value} {y : DataW H × List MemPlace} (h : DataW.trod enc Try.prog w base spare held fuel t [v] = some y) :
    ∃ (ao : Option Addr) (cap : Nat) (l : List α), v = .slice ao l.length cap ∧ l.length ≤ cap ∧ (cap : Int) ≤ 9223372036854775807 ∧ RowsAt cs K w ao l := by
  rcases open_slice ht h with ⟨hcs, _⟩ | ⟨a, len, cap, m, n', D, Pl, hcs, hb, hl, hm, hmm, hx, hi⟩
  · simp only [List.cons.injEq, and_true] at hcs
    exact ⟨none, 0, [], hcs, Nat.le_refl _, by simp, rows_empty _⟩
  · simp only [List.cons.injEq, and_true] at hcs
    subst hcs
    rw [hK] at hi
    have hlm : len ≤ m := by rw [hmm]; split <;> omega
    have hall : ∀ i, ∃ q : α, i < len → ∀ k u, (cs q)[k]? = some u → w.cell? ((a.add (i * K)).add k) = some u := fun i => by
      by_cases h : i < len
      · obtain ⟨cs', hc, ht⟩ := hi i (by omega)
        obtain ⟨q, rfl⟩ := hcell ht
        obtain ⟨_, _, hat⟩ := World.cells?_some hc
        refine ⟨q, fun _ k u hu => ?_⟩
        have hk : k < K := by rw [← hlen q]; exact (List.getElem?_eq_some_iff.1 hu).1
        rw [hat k hk, hu]
      · exact ⟨default, fun h' => absurd h' h⟩
    obtain ⟨F, hF⟩ := Classical.skolem.1 hall
    have hsp : 0 < len → a.spot = none := fun h => by
      have hv : (cs (F 0))[0]? = some ((cs (F 0))[0]'(by rw [hlen]; exact h1)) := List.getElem?_eq_getElem _
      have := hF 0 h 0 _ hv
      simpa [Addr.add] using World.cell?_spot this
    refine ⟨some a, cap, (List.range len).map F, by simp, by simpa using hl, ?_, ⟨fun h => by simp at h, fun a' h hne => ?_, fun a' h i hi' k u hu => ?_⟩⟩
    · unfold maxLen at hm
      exact Int.ofNat_le.2 hm
    · cases h
      exact hsp (by cases len with | zero => simp at hne | succ n => omega)
    · cases h
      simp only [List.length_map, List.length_range] at hi'
      have hs := hsp (by omega)
      rw [List.getElem_map, List.getElem_range] at hu
      have := hF i hi' k u hu
      rw [addr_plus hs, addr_plus (a := ⟨a.block, a.off + i * K, none⟩) rfl] at this
      exact this

set_option maxRecDepth 100000 in
theorem points_in {v : Value} {d : DataW H} {p : List MemPlace} (hv : Value.okWide Try.prog w r b0 57 v) (h : DataW.Trod enc Try.prog w base spare held 57 v d p) :
    ∃ (ao : Option Addr) (cap : Nat) (l : List Pt), v = .slice ao l.length cap ∧ (l.length : Int) ≤ 9223372036854775807 ∧ PtsAt w ao l ∧ l.length ≤ cap := by
  obtain ⟨a0, len0, cap0, rfl⟩ := okWide_slice Try.underlying57 hv
  obtain ⟨fuel, hf⟩ := h
  obtain ⟨ao, cap, l, hv, h1, h2, h3⟩ := rows_in cells_pt (by omega) (fun _ => rfl) Try.underlying57 (fun h => pt_cells h) hf
  exact ⟨ao, cap, l, hv, by omega, h3, h1⟩

/-- A segment: its name and its gates. -/
structure Seg where
  name : ByteArray
  go_ : Option Addr
  gc : Nat
  gs : List Gt
abbrev Seg.val (s : Seg) : Value := .agg #[.string s.name, .slice s.go_ s.gs.length s.gc]
structure SegAt (w : World) (s : Seg) : Prop where
  ns : s.name.size ≤ 140737488355328
  gl : (s.gs.length : Int) ≤ 9223372036854775807
  hg : GatesAt w s.go_ s.gs
theorem SegAt.grown {w w' : World} {s : Seg} (h : SegAt w s) (g : w.grownBy w' none) : SegAt w' s := ⟨h.ns, h.gl, h.hg.grown g⟩

set_option maxRecDepth 100000 in
theorem seg_in {v : Value} {d : DataW H} {p : List MemPlace} (hv : Value.okWide Try.prog w r b0 24 v) (h : DataW.Trod enc Try.prog w base spare held 24 v d p)
    (hz : ∀ m ∈ d.weights Try.prog 24, m ≤ reachBytes) :
    ∃ s : Seg, v = s.val ∧ SegAt w s := by
  obtain ⟨l, ys, n, rfl, hl, rfl, hf⟩ := agg_in (enc := enc) (w := w) (P := Try.prog) (t := 24) Try.underlying24 (by kernel_rfl) (by kernel_rfl) hv h
  match l, hl with
  | [v0, v1], _ =>
    obtain ⟨_, y0, c0, e0, t0⟩ := hf 0 _ rfl
    obtain ⟨_, y1, c1, _, t1⟩ := hf 1 _ rfl
    obtain ⟨nm, rfl, hnm⟩ := str_in t0 (fun k hk => hz k (weights_agg Try.underlying24 (j := 0) rfl e0 k hk))
    obtain ⟨ao, cap, gs, rfl, h1, h2, h3⟩ := rows_in cells_gate (by omega) (fun _ => rfl) Try.underlying22 (fun h => gate_cells h) t1
    cases c0; cases c1
    exact ⟨⟨nm, ao, cap, gs⟩, rfl, hnm, by show (gs.length : Int) ≤ _; omega, h3⟩
end
end Go.Proofs.Ytnjanjbjhbniiaa
