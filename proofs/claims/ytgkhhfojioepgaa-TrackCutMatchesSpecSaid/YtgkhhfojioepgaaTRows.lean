/- Rows of samples, of laps and of tags: as cells one behind the other, and as they lie in memory. -/
import Derived.Test.YtgkhhfojioepgaaTSame
namespace Go.Proofs.Ytgkhhfojioepgaa
open Go.RowKit
set_option linter.unusedSimpArgs false
set_option linter.unusedVariables false

def smpCs (x : Smp) : List Value := [.int .i64 x.t, .int .i64 x.x, .int .i64 x.y, .int .i64 x.z, .int .i64 x.p, .int .i64 x.q, .int .i64 x.s]
def lapRc (x : LapV) : List Value := [.int .i64 x.fr, .int .i64 x.to_, .string x.name]
def smpRw (l : List Smp) : List Value := l.flatMap smpCs
def lapRw (l : List LapV) : List Value := l.flatMap lapRc
def tagRw (l : List ByteArray) : List Value := l.map Value.string

theorem flat_len {α : Type} (f : α → List Value) (c : Nat) (hf : ∀ x, (f x).length = c) : ∀ l : List α, (l.flatMap f).length = l.length * c
  | [] => by simp
  | x :: r => by rw [List.flatMap_cons, List.length_append, hf, flat_len f c hf r, List.length_cons, Nat.add_mul]; omega
theorem flatR_at {α : Type} (f : α → List Value) (c : Nat) (hf : ∀ x, (f x).length = c) : ∀ (l : List α) (j i : Nat) (hj : j < l.length), i < c → (l.flatMap f)[j * c + i]? = (f l[j])[i]?
  | x :: r, 0, i, _, hi => by
    rw [List.flatMap_cons, List.getElem?_append_left (by rw [hf]; omega)]; simp
  | x :: r, j + 1, i, hj, hi => by
    rw [List.flatMap_cons, List.getElem?_append_right (by rw [hf, Nat.add_mul]; omega), hf]
    have e : (j + 1) * c + i - c = j * c + i := by rw [Nat.add_mul]; omega
    rw [e]
    exact flatR_at f c hf r j i (by simpa using hj) hi
theorem smpRw_len (l : List Smp) : (smpRw l).length = l.length * 7 := flat_len smpCs 7 (fun _ => rfl) l
theorem lapRw_len (l : List LapV) : (lapRw l).length = l.length * 3 := flat_len lapRc 3 (fun _ => rfl) l
theorem tagRw_len (l : List ByteArray) : (tagRw l).length = l.length * 1 := by unfold tagRw; simp
theorem smpRw_snoc (l : List Smp) (x : Smp) : smpRw (l ++ [x]) = smpRw l ++ smpCs x := by unfold smpRw; simp
theorem lapRw_snoc (l : List LapV) (x : LapV) : lapRw (l ++ [x]) = lapRw l ++ lapRc x := by unfold lapRw; simp
theorem smpRw_one (l : List Smp) : ∀ u ∈ smpRw l, u.oneCell' = true := fun u hu => by
  obtain ⟨x, _, h⟩ := List.mem_flatMap.1 hu
  simp only [smpCs, List.mem_cons, List.not_mem_nil, or_false] at h
  rcases h with rfl | rfl | rfl | rfl | rfl | rfl | rfl <;> rfl
theorem lapRw_one (l : List LapV) : ∀ u ∈ lapRw l, u.oneCell' = true := fun u hu => by
  obtain ⟨x, _, h⟩ := List.mem_flatMap.1 hu
  simp only [lapRc, List.mem_cons, List.not_mem_nil, or_false] at h
  rcases h with rfl | rfl | rfl <;> rfl
theorem tagRw_one (l : List ByteArray) : ∀ u ∈ tagRw l, u.oneCell' = true := fun u hu => by
  obtain ⟨x, _, rfl⟩ := List.mem_map.1 hu; rfl

theorem add_off (b o k : Nat) : (⟨b, o, none⟩ : Addr).add k = ⟨b, o + k, none⟩ := by unfold Addr.add; split <;> simp_all
theorem row_split {c k : Nat} (hc : 0 < c) : k = (k / c) * c + k % c ∧ k % c < c := ⟨by have := Nat.div_add_mod k c; rw [Nat.mul_comm] at this; omega, Nat.mod_lt _ hc⟩

theorem SmpsAt.row {w : World} {a : Addr} {l : List Smp} (h : SmpsAt w (some a) l) : ∀ k u, (smpRw l)[k]? = some u → w.cell? (a.add k) = some u := fun k u hu => by
  have hk : k < (smpRw l).length := (List.getElem?_eq_some_iff.1 hu).1
  rw [smpRw_len] at hk
  obtain ⟨he, hi⟩ := row_split (c := 7) (k := k) (by omega)
  have hj : k / 7 < l.length := by omega
  have hne : l ≠ [] := fun e => by rw [e] at hj; simp at hj
  have hsp := h.spot _ rfl hne
  obtain ⟨b, o, sp⟩ := a
  simp only at hsp; subst hsp
  obtain ⟨h0, h1, h2, h3, h4, h5, h6⟩ := h.cells _ rfl (k / 7) hj
  rw [he, show smpRw l = l.flatMap smpCs from rfl, flatR_at smpCs 7 (fun _ => rfl) l _ _ hj hi] at hu
  rw [add_off]
  simp only at h0 h1 h2 h3 h4 h5 h6
  generalize hq : k % 7 = q at *
  rw [he, ← Nat.add_assoc]
  match q, hi, hu with
  | 0, _, hu => cases hu; simpa using h0
  | 1, _, hu => cases hu; exact h1
  | 2, _, hu => cases hu; exact h2
  | 3, _, hu => cases hu; exact h3
  | 4, _, hu => cases hu; exact h4
  | 5, _, hu => cases hu; exact h5
  | 6, _, hu => cases hu; exact h6
theorem LapsAt.row {w : World} {a : Addr} {l : List LapV} (h : LapsAt w (some a) l) : ∀ k u, (lapRw l)[k]? = some u → w.cell? (a.add k) = some u := fun k u hu => by
  have hk : k < (lapRw l).length := (List.getElem?_eq_some_iff.1 hu).1
  rw [lapRw_len] at hk
  obtain ⟨he, hi⟩ := row_split (c := 3) (k := k) (by omega)
  have hj : k / 3 < l.length := by omega
  have hne : l ≠ [] := fun e => by rw [e] at hj; simp at hj
  have hsp := h.spot _ rfl hne
  obtain ⟨b, o, sp⟩ := a
  simp only at hsp; subst hsp
  obtain ⟨h0, h1, h2⟩ := h.cells _ rfl (k / 3) hj
  rw [he, show lapRw l = l.flatMap lapRc from rfl, flatR_at lapRc 3 (fun _ => rfl) l _ _ hj hi] at hu
  rw [add_off]
  simp only at h0 h1 h2
  generalize hq : k % 3 = q at *
  rw [he, ← Nat.add_assoc]
  match q, hi, hu with
  | 0, _, hu => cases hu; simpa using h0
  | 1, _, hu => cases hu; exact h1
  | 2, _, hu => cases hu; exact h2
theorem TagsAt.row {w : World} {a : Addr} {l : List ByteArray} (h : TagsAt w (some a) l) : ∀ k u, (tagRw l)[k]? = some u → w.cell? (a.add k) = some u := fun k u hu => by
  have hk : k < (tagRw l).length := (List.getElem?_eq_some_iff.1 hu).1
  rw [tagRw_len, Nat.mul_one] at hk
  have hne : l ≠ [] := fun e => by rw [e] at hk; simp at hk
  have hsp := h.spot _ rfl hne
  obtain ⟨b, o, sp⟩ := a
  simp only at hsp; subst hsp
  have h0 := h.cells _ rfl k hk
  unfold tagRw at hu
  rw [List.getElem?_map, List.getElem?_eq_getElem hk] at hu
  rw [add_off]; cases hu; exact h0

theorem own_smps {w : World} {base : Nat} {v : Value} {l : List Smp} (h : w.ownsRow base 28 7 v l.length (smpRw l)) : ∃ ao cap, v = .slice ao l.length cap ∧ SmpsAt w ao l ∧ (∀ a, ao = some a → base ≤ a.block ∧ a.block < w.heap.size) := by
  have hlt := h.lt
  rcases h.2 with ⟨hv, h0⟩ | ⟨g, cap, cur, hv, hb, hg, _⟩
  · have hl : l = [] := List.eq_nil_of_length_eq_zero h0
    subst hl
    exact ⟨none, 0, hv, ⟨fun _ => rfl, fun a h => by simp at h, fun a h => by simp at h⟩, fun a h => by simp at h⟩
  · refine ⟨some ⟨g, 0, none⟩, cap, hv, ⟨fun h => by simp at h, fun a ha _ => by cases ha; rfl, fun a ha i hi => ?_⟩, fun a ha => by cases ha; exact hlt g (by rw [hv]; rfl)⟩
    cases ha
    have q : ∀ (k : Nat) (u : Value), k < 7 → (smpCs l[i])[k]? = some u → w.cell? ⟨g, 0 + i * 7 + k, none⟩ = some u := fun k u hk hu => by
      have := h.cells (g := g) (by rw [hv]; rfl) (i * 7 + k) u (by rw [show smpRw l = l.flatMap smpCs from rfl, flatR_at smpCs 7 (fun _ => rfl) l i k hi hk]; exact hu)
      rw [add_off] at this; simpa [Nat.add_assoc] using this
    exact ⟨q 0 _ (by omega) rfl, q 1 _ (by omega) rfl, q 2 _ (by omega) rfl, q 3 _ (by omega) rfl, q 4 _ (by omega) rfl, q 5 _ (by omega) rfl, q 6 _ (by omega) rfl⟩
theorem own_lapsR {w : World} {base : Nat} {v : Value} {l : List LapV} (h : w.ownsRow base 77 3 v l.length (lapRw l)) (hz : ∀ i (h : i < l.length), l[i].name.size ≤ 140737488355328) : ∃ ao cap, v = .slice ao l.length cap ∧ LapsAt w ao l ∧ (∀ a, ao = some a → base ≤ a.block ∧ a.block < w.heap.size) := by
  have hlt := h.lt
  rcases h.2 with ⟨hv, h0⟩ | ⟨g, cap, cur, hv, hb, hg, _⟩
  · have hl : l = [] := List.eq_nil_of_length_eq_zero h0
    subst hl
    exact ⟨none, 0, hv, ⟨fun _ => rfl, fun a h => by simp at h, fun a h => by simp at h, hz⟩, fun a h => by simp at h⟩
  · refine ⟨some ⟨g, 0, none⟩, cap, hv, ⟨fun h => by simp at h, fun a ha _ => by cases ha; rfl, fun a ha i hi => ?_, hz⟩, fun a ha => by cases ha; exact hlt g (by rw [hv]; rfl)⟩
    cases ha
    have q : ∀ (k : Nat) (u : Value), k < 3 → (lapRc l[i])[k]? = some u → w.cell? ⟨g, 0 + i * 3 + k, none⟩ = some u := fun k u hk hu => by
      have := h.cells (g := g) (by rw [hv]; rfl) (i * 3 + k) u (by rw [show lapRw l = l.flatMap lapRc from rfl, flatR_at lapRc 3 (fun _ => rfl) l i k hi hk]; exact hu)
      rw [add_off] at this; simpa [Nat.add_assoc] using this
    exact ⟨q 0 _ (by omega) rfl, q 1 _ (by omega) rfl, q 2 _ (by omega) rfl⟩
theorem own_tags {w : World} {base : Nat} {v : Value} {l : List ByteArray} (h : w.ownsRow base 9 1 v l.length (tagRw l)) (hz : ∀ i (h : i < l.length), l[i].size ≤ 140737488355328) : ∃ ao cap, v = .slice ao l.length cap ∧ TagsAt w ao l ∧ (∀ a, ao = some a → base ≤ a.block ∧ a.block < w.heap.size) := by
  have hlt := h.lt
  rcases h.2 with ⟨hv, h0⟩ | ⟨g, cap, cur, hv, hb, hg, _⟩
  · have hl : l = [] := List.eq_nil_of_length_eq_zero h0
    subst hl
    exact ⟨none, 0, hv, ⟨fun _ => rfl, fun a h => by simp at h, fun a h => by simp at h, hz⟩, fun a h => by simp at h⟩
  · refine ⟨some ⟨g, 0, none⟩, cap, hv, ⟨fun h => by simp at h, fun a ha _ => by cases ha; rfl, fun a ha i hi => ?_, hz⟩, fun a ha => by cases ha; exact hlt g (by rw [hv]; rfl)⟩
    cases ha
    have := h.cells (g := g) (by rw [hv]; rfl) i (.string l[i]) (by unfold tagRw; rw [List.getElem?_map, List.getElem?_eq_getElem hi]; rfl)
    rw [add_off] at this; simpa using this

/-- A value is an activity of this content. -/
def ActIs (w : World) (v : Value) (c : Act) : Prop := ∃ so sc lo lc to_ tc, v = (⟨c.name, c.sport, c.start, so, sc, c.ss, lo, lc, c.ls, to_, tc, c.ts⟩ : Act).val ∧ ActAt w ⟨c.name, c.sport, c.start, so, sc, c.ss, lo, lc, c.ls, to_, tc, c.ts⟩
theorem ActIs.grown {w w' : World} {v : Value} {c : Act} (h : ActIs w v c) (g : w.grownBy w' none) : ActIs w' v c := by
  obtain ⟨so, sc, lo, lc, to_, tc, hv, ha⟩ := h
  exact ⟨so, sc, lo, lc, to_, tc, hv, ha.grown g⟩
theorem ActAt.is {w : World} {a : Act} (h : ActAt w a) : ActIs w a.val a := ⟨a.so, a.sc, a.lo, a.lc, a.to_, a.tc, rfl, h⟩
def act0 : Act := ⟨⟨#[]⟩, 0, 0, none, 0, [], none, 0, [], none, 0, []⟩
theorem act0_at (w : World) : ActAt w act0 := by
  have q : ∀ a : Addr, ¬ ((none : Option Addr) = some a) := fun a h => by simp at h
  refine ⟨by show (0 : Nat) ≤ _; omega, by show ((0 : Nat) : Int) ≤ _; omega, by show ((0 : Nat) : Int) ≤ _; omega, by show ((0 : Nat) : Int) ≤ _; omega, ⟨fun _ => rfl, fun a h => absurd h (q a), fun a h => absurd h (q a)⟩, ⟨fun _ => rfl, fun a h => absurd h (q a), fun a h => absurd h (q a), fun i h => absurd h (Nat.not_lt_zero i)⟩, ⟨fun _ => rfl, fun a h => absurd h (q a), fun a h => absurd h (q a), fun i h => absurd h (Nat.not_lt_zero i)⟩⟩
theorem act0_is (w : World) : ActIs w (.agg #[.string ⟨#[]⟩, .int .i64 0, .int .i64 0, .slice none 0 0, .slice none 0 0, .slice none 0 0]) act0 := (act0_at w).is
end Go.Proofs.Ytgkhhfojioepgaa
