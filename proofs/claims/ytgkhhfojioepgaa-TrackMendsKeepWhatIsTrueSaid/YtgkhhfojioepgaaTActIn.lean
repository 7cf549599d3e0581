/- An activity and a sample that come in as arguments: their cells. -/
import Derived.Test.YtgkhhfojioepgaaBaseA
import Derived.Lib.SmallJoins
import Derived.Deep.Slices
import Derived.Deep.Fields
import Derived.ChangeSame
import Derived.SizedLaws
namespace Go.Proofs.Ytgkhhfojioepgaa
open Go.Joins Go.ChangeShapes Go.WideShapes Go.RowKit Go.Deep
set_option linter.unusedSimpArgs false
set_option linter.unusedVariables false

theorem addr_plus {a : Addr} (h : a.spot = none) (n : Nat) : a.add n = ⟨a.block, a.off + n, none⟩ := by
  obtain ⟨b, o, s⟩ := a
  simp only at h
  subst h
  unfold Addr.add
  split
  · rename_i h; subst h; rfl
  · rfl

theorem cells_smp : Try.prog.cellsOf 28 = 7 := by kernel_rfl
theorem cells_lap : Try.prog.cellsOf 77 = 3 := by kernel_rfl
theorem cells_act : Try.prog.cellsOf 26 = 6 := by kernel_rfl
theorem cells_str : Try.prog.cellsOf 9 = 1 := by kernel_rfl

section
variable {H : Type} {enc : TypeId × Value → H} {w : World} {base : Nat} {spare : Nat → Bool} {held : Bool} {P : Program}

theorem weights_all {e : TypeId} {d : DataW H} {n : Nat} (hn : n ∈ d.weights P e) : ∀ {ds : List (DataW H)}, d ∈ ds → n ∈ DataW.weightsAll P e ds
  | d0 :: r, h => by
    rcases List.mem_cons.1 h with rfl | h
    · simp only [DataW.weightsAll, List.mem_append]; exact .inl hn
    · simp only [DataW.weightsAll, List.mem_append]; exact .inr (weights_all hn h)

theorem weights_agg {t : TypeId} {fs : Array Field} (hs : P.underlying t = some (.struct fs)) {ys : List (DataW H × List MemPlace)} {j : Nat} {f : Field} {y : DataW H × List MemPlace} (hf : fs[j]? = some f) (hy : ys[j]? = some y) :
    ∀ n ∈ y.1.weights P f.type, n ∈ (DataW.agg (ys.map (·.1))).weights P t := fun n hn => by
  simp only [DataW.weights, hs]
  exact DataW.weights_mem_each (j := j) (t := f.type) (d := y.1) (by rw [List.getElem?_map, Array.getElem?_toList, hf]; rfl) (by rw [List.getElem?_map, hy]; rfl) n hn

theorem weights_slice {t e : TypeId} (hs : P.underlying t = some (.slice e)) {els sp : List (DataW H)} {d : DataW H} (hd : d ∈ els) :
    ∀ n ∈ d.weights P e, n ∈ (DataW.slice els sp).weights P t := fun n hn => by
  simp only [DataW.weights, hs, List.mem_cons, List.mem_append]
  exact .inr (.inl (weights_all hn hd))

/-- The fields of a struct of one-cell fields that was read. -/
theorem fields_in {e : TypeId} {fs : Array Field} {n : Nat} {cs : List Value} {x : DataW H × List MemPlace} (he : P.underlying e = some (.struct fs)) (hone : oneCellFields P fs = true) (hC : P.cellsOf e = fs.size)
    (h : DataW.trod enc P w base spare held n e cs = some x) :
    ∃ (ys : List (DataW H × List MemPlace)) (n' : Nat), x.1 = .agg (ys.map (·.1)) ∧ cs.length = fs.size ∧
      ∀ (j : Nat) (f : Field), fs[j]? = some f → ∃ (v : Value) (y : DataW H × List MemPlace), cs[j]? = some v ∧ ys[j]? = some y ∧ DataW.trod enc P w base spare held n' f.type [v] = some y := by
  obtain ⟨ys, n', _, hx, hlen, hyl, hf⟩ := DataW.trod_struct he h
  rw [hC] at hlen
  refine ⟨ys, n', by rw [hx], hlen, fun j f hj => ?_⟩
  obtain ⟨ho, hk⟩ := hone_of hone j f hj
  have hjl : j < fs.size := (Array.getElem?_eq_some_iff.1 hj).1
  have h1 := hf j f hj
  have hys : ys[j]? = some (ys[j]'(by omega)) := List.getElem?_eq_getElem (by omega)
  have ht : (cs.drop f.offset).take (P.cellsOf f.type) = [cs[j]'(by omega)] := by
    rw [ho, hk, List.drop_eq_getElem_cons (by omega)]; rfl
  rw [ht] at h1
  exact ⟨_, _, List.getElem?_eq_getElem (by omega), hys, h1.trans hys⟩

/-- One field: its cell. -/
theorem field_in {e : TypeId} {fs : Array Field} {n : Nat} {a : Addr} {cs : List Value} {x : DataW H × List MemPlace} (he : P.underlying e = some (.struct fs)) (hone : oneCellFields P fs = true) (hC : P.cellsOf e = fs.size)
    (hc : w.cells? base a (P.cellsOf e) = some cs) (h : DataW.trod enc P w base spare held n e cs = some x) :
    ∃ (ys : List (DataW H × List MemPlace)) (n' : Nat), x.1 = .agg (ys.map (·.1)) ∧
      ∀ (j : Nat) (f : Field), fs[j]? = some f → ∃ (v : Value) (y : DataW H × List MemPlace), w.cell? (a.add j) = some v ∧ ys[j]? = some y ∧ DataW.trod enc P w base spare held n' f.type [v] = some y := by
  obtain ⟨ys, n', hx, hlen, hf⟩ := fields_in he hone hC h
  obtain ⟨_, _, hat⟩ := World.cells?_some hc
  refine ⟨ys, n', hx, fun j f hj => ?_⟩
  obtain ⟨v, y, hv, hy, ht⟩ := hf j f hj
  have hjl : j < fs.size := (Array.getElem?_eq_some_iff.1 hj).1
  exact ⟨v, y, by rw [hat j (by omega), hv], hy, ht⟩

/-- A number's field. -/
theorem int_in {n : Nat} {v : Value} {y : DataW H × List MemPlace} (h : DataW.trod enc Try.prog w base spare held n 3 [v] = some y) : ∃ z : Int, v = .int .i64 z := by
  obtain ⟨z, hz, _, _⟩ := DataW.trod_int Try.underlying3 h
  simp only [List.cons.injEq, and_true] at hz
  exact ⟨z, hz⟩

/-- A string's field. -/
theorem str_in {n : Nat} {v : Value} {y : DataW H × List MemPlace} (h : DataW.trod enc Try.prog w base spare held n 9 [v] = some y) (hz : ∀ m ∈ y.1.weights Try.prog 9, m ≤ reachBytes) : ∃ s : ByteArray, v = .string s ∧ s.size ≤ 140737488355328 := by
  obtain ⟨s, hs, rfl, _⟩ := DataW.trod_string Try.underlying9 h
  simp only [List.cons.injEq, and_true] at hs
  refine ⟨s, hs, ?_⟩
  have := hz s.data.toList.length (by simp [DataW.weights])
  rw [Array.length_toList] at this
  exact Nat.le_trans this (by decide)

theorem samples_in {fuel : Nat} {v : Value} {y : DataW H × List MemPlace} (h : DataW.trod enc Try.prog w base spare held fuel 22 [v] = some y) :
    ∃ (ao : Option Addr) (cap : Nat) (l : List Smp), v = .slice ao l.length cap ∧ l.length ≤ cap ∧ (cap : Int) ≤ 9223372036854775807 ∧ SmpsAt w ao l := by
  rcases open_slice Try.underlying22 h with ⟨hcs, _⟩ | ⟨a, len, cap, m, n', D, Pl, hcs, hb, hl, hm, hmm, hx, hi⟩
  · simp only [List.cons.injEq, and_true] at hcs
    exact ⟨none, 0, [], hcs, Nat.le_refl _, by simp, ⟨fun _ => rfl, fun a h => by simp at h, fun a h => by simp at h⟩⟩
  · simp only [List.cons.injEq, and_true] at hcs
    subst hcs
    have hlm : len ≤ m := by rw [hmm]; split <;> omega
    have hall : ∀ i, ∃ q : Smp, i < len → w.cell? ((a.add (i * 7)).add 0) = some (.int .i64 q.t) ∧ w.cell? ((a.add (i * 7)).add 1) = some (.int .i64 q.x) ∧ w.cell? ((a.add (i * 7)).add 2) = some (.int .i64 q.y) ∧ w.cell? ((a.add (i * 7)).add 3) = some (.int .i64 q.z) ∧ w.cell? ((a.add (i * 7)).add 4) = some (.int .i64 q.p) ∧ w.cell? ((a.add (i * 7)).add 5) = some (.int .i64 q.q) ∧ w.cell? ((a.add (i * 7)).add 6) = some (.int .i64 q.s) := fun i => by
      by_cases h : i < len
      · obtain ⟨cs', hc, ht⟩ := hi i (by omega)
        obtain ⟨ys, n2, _, hf⟩ := field_in Try.underlying28 (by kernel_rfl) (by kernel_rfl) hc ht
        rw [cells_smp] at hf
        obtain ⟨v0, y0, c0, _, t0⟩ := hf 0 _ rfl
        obtain ⟨v1, y1, c1, _, t1⟩ := hf 1 _ rfl
        obtain ⟨v2, y2, c2, _, t2⟩ := hf 2 _ rfl
        obtain ⟨v3, y3, c3, _, t3⟩ := hf 3 _ rfl
        obtain ⟨v4, y4, c4, _, t4⟩ := hf 4 _ rfl
        obtain ⟨v5, y5, c5, _, t5⟩ := hf 5 _ rfl
        obtain ⟨v6, y6, c6, _, t6⟩ := hf 6 _ rfl
        obtain ⟨z0, rfl⟩ := int_in t0
        obtain ⟨z1, rfl⟩ := int_in t1
        obtain ⟨z2, rfl⟩ := int_in t2
        obtain ⟨z3, rfl⟩ := int_in t3
        obtain ⟨z4, rfl⟩ := int_in t4
        obtain ⟨z5, rfl⟩ := int_in t5
        obtain ⟨z6, rfl⟩ := int_in t6
        exact ⟨⟨z0, z1, z2, z3, z4, z5, z6⟩, fun _ => ⟨c0, c1, c2, c3, c4, c5, c6⟩⟩
      · exact ⟨⟨0, 0, 0, 0, 0, 0, 0⟩, fun h' => absurd h' h⟩
    obtain ⟨F, hF⟩ := Classical.skolem.1 hall
    have hsp : 0 < len → a.spot = none := fun h => by
      have := (hF 0 h).1
      simpa [Addr.add] using World.cell?_spot this
    refine ⟨some a, cap, (List.range len).map F, by simp, by simpa using hl, ?_, ⟨fun h => by simp at h, fun a' h hne => ?_, fun a' h i hi' => ?_⟩⟩
    · unfold maxLen at hm
      exact Int.ofNat_le.2 hm
    · cases h
      exact hsp (by cases len with | zero => simp at hne | succ n => omega)
    · cases h
      simp only [List.length_map, List.length_range] at hi'
      have hs := hsp (by omega)
      have := hF i hi'
      simp only [addr_plus hs, addr_plus (a := ⟨a.block, a.off + i * 7, none⟩) rfl] at this
      simpa [Nat.add_assoc] using this

theorem laps_in {fuel : Nat} {v : Value} {y : DataW H × List MemPlace} (h : DataW.trod enc Try.prog w base spare held fuel 23 [v] = some y) (hz : ∀ m ∈ y.1.weights Try.prog 23, m ≤ reachBytes) :
    ∃ (ao : Option Addr) (cap : Nat) (l : List LapV), v = .slice ao l.length cap ∧ l.length ≤ cap ∧ (cap : Int) ≤ 9223372036854775807 ∧ LapsAt w ao l := by
  rcases open_slice Try.underlying23 h with ⟨hcs, _⟩ | ⟨a, len, cap, m, n', D, Pl, hcs, hb, hl, hm, hmm, hx, hi⟩
  · simp only [List.cons.injEq, and_true] at hcs
    exact ⟨none, 0, [], hcs, Nat.le_refl _, by simp, ⟨fun _ => rfl, fun a h => by simp at h, fun a h => by simp at h, fun i h => by simp at h⟩⟩
  · simp only [List.cons.injEq, and_true] at hcs
    subst hcs; subst hx
    have hlm : len ≤ m := by rw [hmm]; split <;> omega
    have hall : ∀ i, ∃ q : LapV, i < len → (w.cell? ((a.add (i * 3)).add 0) = some (.int .i64 q.fr) ∧ w.cell? ((a.add (i * 3)).add 1) = some (.int .i64 q.to_) ∧ w.cell? ((a.add (i * 3)).add 2) = some (.string q.name)) ∧ q.name.size ≤ 140737488355328 := fun i => by
      by_cases h : i < len
      · obtain ⟨cs', hc, ht⟩ := hi i (by omega)
        obtain ⟨ys, n2, hx1, hf⟩ := field_in Try.underlying77 (by kernel_rfl) (by kernel_rfl) hc ht
        rw [cells_lap] at hf
        obtain ⟨v0, y0, c0, _, t0⟩ := hf 0 _ rfl
        obtain ⟨v1, y1, c1, _, t1⟩ := hf 1 _ rfl
        obtain ⟨v2, y2, c2, hy2, t2⟩ := hf 2 _ rfl
        obtain ⟨z0, rfl⟩ := int_in t0
        obtain ⟨z1, rfl⟩ := int_in t1
        obtain ⟨z2, rfl, hz2⟩ := str_in t2 (fun k hk => hz k (weights_slice Try.underlying23 (List.mem_map.2 ⟨i, List.mem_range.2 h, rfl⟩) k (by
          simp only at hx1
          rw [hx1]
          exact weights_agg Try.underlying77 (j := 2) rfl hy2 k hk)))
        exact ⟨⟨z0, z1, z2⟩, fun _ => ⟨⟨c0, c1, c2⟩, hz2⟩⟩
      · exact ⟨⟨0, 0, ByteArray.empty⟩, fun h' => absurd h' h⟩
    obtain ⟨F, hF⟩ := Classical.skolem.1 hall
    have hsp : 0 < len → a.spot = none := fun h => by
      have := (hF 0 h).1.1
      simpa [Addr.add] using World.cell?_spot this
    refine ⟨some a, cap, (List.range len).map F, by simp, by simpa using hl, ?_, ⟨fun h => by simp at h, fun a' h hne => ?_, fun a' h i hi' => ?_, fun i hi' => ?_⟩⟩
    · unfold maxLen at hm
      exact Int.ofNat_le.2 hm
    · cases h
      exact hsp (by cases len with | zero => simp at hne | succ n => omega)
    · cases h
      simp only [List.length_map, List.length_range] at hi'
      have hs := hsp (by omega)
      have := (hF i hi').1
      simp only [addr_plus hs, addr_plus (a := ⟨a.block, a.off + i * 3, none⟩) rfl] at this
      simpa [Nat.add_assoc] using this
    · simp only [List.length_map, List.length_range] at hi'
      simpa using (hF i hi').2

theorem tags_in {fuel : Nat} {v : Value} {y : DataW H × List MemPlace} (h : DataW.trod enc Try.prog w base spare held fuel 24 [v] = some y) (hz : ∀ m ∈ y.1.weights Try.prog 24, m ≤ reachBytes) :
    ∃ (ao : Option Addr) (cap : Nat) (l : List ByteArray), v = .slice ao l.length cap ∧ l.length ≤ cap ∧ (cap : Int) ≤ 9223372036854775807 ∧ TagsAt w ao l := by
  rcases open_slice1 Try.underlying24 cells_str h with ⟨hcs, _⟩ | ⟨a, len, cap, m, n', V, D, Pl, hcs, hb, hl, hm, hmm, hx, hi⟩
  · simp only [List.cons.injEq, and_true] at hcs
    exact ⟨none, 0, [], hcs, Nat.le_refl _, by simp, ⟨fun _ => rfl, fun a h => by simp at h, fun a h => by simp at h, fun i h => by simp at h⟩⟩
  · simp only [List.cons.injEq, and_true] at hcs
    subst hcs; subst hx
    have hlm : len ≤ m := by rw [hmm]; split <;> omega
    have hall : ∀ i, ∃ q : ByteArray, i < len → w.cell? (a.add i) = some (.string q) ∧ q.size ≤ 140737488355328 := fun i => by
      by_cases h : i < len
      · obtain ⟨hc, ht⟩ := hi i (by omega)
        obtain ⟨z, hz1, hz2⟩ := str_in ht (fun k hk => hz k (weights_slice Try.underlying24 (List.mem_map.2 ⟨i, List.mem_range.2 h, rfl⟩) k hk))
        exact ⟨z, fun _ => ⟨by rw [hc, hz1], hz2⟩⟩
      · exact ⟨ByteArray.empty, fun h' => absurd h' h⟩
    obtain ⟨F, hF⟩ := Classical.skolem.1 hall
    have hsp : 0 < len → a.spot = none := fun h => by
      have := (hF 0 h).1
      simpa [Addr.add] using World.cell?_spot this
    refine ⟨some a, cap, (List.range len).map F, by simp, by simpa using hl, ?_, ⟨fun h => by simp at h, fun a' h hne => ?_, fun a' h i hi' => ?_, fun i hi' => ?_⟩⟩
    · unfold maxLen at hm
      exact Int.ofNat_le.2 hm
    · cases h
      exact hsp (by cases len with | zero => simp at hne | succ n => omega)
    · cases h
      simp only [List.length_map, List.length_range] at hi'
      have hs := hsp (by omega)
      have := (hF i hi').1
      rw [addr_plus hs] at this
      simpa using this
    · simp only [List.length_map, List.length_range] at hi'
      simpa using (hF i hi').2

/-- The fields of a struct that is an argument. -/
theorem agg_in {r : Reach} {b0 : Nat} {t : TypeId} {fs : Array Field} {v : Value} {d : DataW H} {p : List MemPlace} (hs : P.underlying t = some (.struct fs)) (hone : oneCellFields P fs = true) (hC : P.cellsOf t = fs.size)
    (hv : Value.okWide P w r b0 t v) (h : DataW.Trod enc P w base spare held t v d p) :
    ∃ (l : List Value) (ys : List (DataW H × List MemPlace)) (n : Nat), v = .agg l.toArray ∧ l.length = fs.size ∧ d = .agg (ys.map (·.1)) ∧
      ∀ (j : Nat) (f : Field), fs[j]? = some f → ∃ (c : Value) (y : DataW H × List MemPlace), l[j]? = some c ∧ ys[j]? = some y ∧ DataW.trod enc P w base spare held n f.type [c] = some y := by
  obtain ⟨cs, rfl, hsz⟩ := okWide_struct hs hv
  obtain ⟨l⟩ := cs
  obtain ⟨fuel, hf⟩ := h
  obtain ⟨ys, n, hx, hlen, hg⟩ := fields_in hs hone hC hf
  exact ⟨l, ys, n, rfl, hlen, hx, hg⟩

set_option maxRecDepth 100000 in
theorem smp_in {r : Reach} {b0 : Nat} {v : Value} {d : DataW H} {p : List MemPlace} (hv : Value.okWide Try.prog w r b0 28 v) (h : DataW.Trod enc Try.prog w base spare held 28 v d p) :
    ∃ s : Smp, v = .agg #[.int .i64 s.t, .int .i64 s.x, .int .i64 s.y, .int .i64 s.z, .int .i64 s.p, .int .i64 s.q, .int .i64 s.s] := by
  obtain ⟨l, ys, n, rfl, hl, _, hf⟩ := agg_in (enc := enc) (w := w) (P := Try.prog) (t := 28) Try.underlying28 (by kernel_rfl) (by kernel_rfl) hv h
  match l, hl with
  | [v0, v1, v2, v3, v4, v5, v6], _ =>
    obtain ⟨_, y0, c0, _, t0⟩ := hf 0 _ rfl
    obtain ⟨_, y1, c1, _, t1⟩ := hf 1 _ rfl
    obtain ⟨_, y2, c2, _, t2⟩ := hf 2 _ rfl
    obtain ⟨_, y3, c3, _, t3⟩ := hf 3 _ rfl
    obtain ⟨_, y4, c4, _, t4⟩ := hf 4 _ rfl
    obtain ⟨_, y5, c5, _, t5⟩ := hf 5 _ rfl
    obtain ⟨_, y6, c6, _, t6⟩ := hf 6 _ rfl
    obtain ⟨z0, rfl⟩ := int_in t0
    obtain ⟨z1, rfl⟩ := int_in t1
    obtain ⟨z2, rfl⟩ := int_in t2
    obtain ⟨z3, rfl⟩ := int_in t3
    obtain ⟨z4, rfl⟩ := int_in t4
    obtain ⟨z5, rfl⟩ := int_in t5
    obtain ⟨z6, rfl⟩ := int_in t6
    cases c0; cases c1; cases c2; cases c3; cases c4; cases c5; cases c6
    exact ⟨⟨z0, z1, z2, z3, z4, z5, z6⟩, rfl⟩

set_option maxRecDepth 100000 in
theorem act_in {r : Reach} {b0 : Nat} {v : Value} {d : DataW H} {p : List MemPlace} (hv : Value.okWide Try.prog w r b0 26 v) (h : DataW.Trod enc Try.prog w base spare held 26 v d p)
    (hz : ∀ m ∈ d.weights Try.prog 26, m ≤ reachBytes) :
    ∃ a : Act, v = a.val ∧ ActAt w a ∧ a.ss.length ≤ a.sc ∧ (a.sc : Int) ≤ 9223372036854775807 := by
  obtain ⟨l, ys, n, rfl, hl, rfl, hf⟩ := agg_in (enc := enc) (w := w) (P := Try.prog) (t := 26) Try.underlying26 (by kernel_rfl) (by kernel_rfl) hv h
  match l, hl with
  | [v0, v1, v2, v3, v4, v5], _ =>
    obtain ⟨_, y0, c0, e0, t0⟩ := hf 0 _ rfl
    obtain ⟨_, y1, c1, _, t1⟩ := hf 1 _ rfl
    obtain ⟨_, y2, c2, _, t2⟩ := hf 2 _ rfl
    obtain ⟨_, y3, c3, _, t3⟩ := hf 3 _ rfl
    obtain ⟨_, y4, c4, e4, t4⟩ := hf 4 _ rfl
    obtain ⟨_, y5, c5, e5, t5⟩ := hf 5 _ rfl
    obtain ⟨nm, rfl, hnm⟩ := str_in t0 (fun k hk => hz k (weights_agg Try.underlying26 (j := 0) rfl e0 k hk))
    obtain ⟨z1, rfl⟩ := int_in t1
    obtain ⟨z2, rfl⟩ := int_in t2
    obtain ⟨so, sc, ss, rfl, hs1, hs2, hs3⟩ := samples_in t3
    obtain ⟨lo, lc, ls, rfl, hl1, hl2, hl3⟩ := laps_in t4 (fun k hk => hz k (weights_agg Try.underlying26 (j := 4) rfl e4 k hk))
    obtain ⟨to_, tc, ts, rfl, ht1, ht2, ht3⟩ := tags_in t5 (fun k hk => hz k (weights_agg Try.underlying26 (j := 5) rfl e5 k hk))
    cases c0; cases c1; cases c2; cases c3; cases c4; cases c5
    exact ⟨⟨nm, z1, z2, so, sc, ss, lo, lc, ls, to_, tc, ts⟩, rfl, ⟨hnm, by show (ss.length : Int) ≤ _; omega, by show (ls.length : Int) ≤ _; omega, by show (ts.length : Int) ≤ _; omega, hs3, hl3, ht3⟩, hs1, hs2⟩

theorem sized_at {ts : List TypeId} {ds : List (DataW H)} (h : (DataW.weightsEach P ts ds).all (· ≤ reachBytes) = true) {j : Nat} {t : TypeId} {d : DataW H} (ht : ts[j]? = some t) (hd : ds[j]? = some d) : ∀ m ∈ d.weights P t, m ≤ reachBytes := fun m hm => by
  simpa using List.all_eq_true.1 h m (DataW.weights_mem_each ht hd m hm)
end
end Go.Proofs.Ytgkhhfojioepgaa
