/- Rows of states in memory; two equal ones. -/
import Derived.Test.YteaifonpkdjkcaaFBookC
import Derived.BigQuiet
namespace Go.Proofs.Yteaifonpkdjkcaa
open Go.RowKit Go.Maps
set_option linter.unusedSimpArgs false
set_option linter.unusedVariables false

def stCs (x : StV) : List Value := [.int .i64 x.d, .int .i64 x.l, .int .i64 x.f, .int .i64 x.g, .int .i64 x.m]
def stRw (l : List StV) : List Value := l.flatMap stCs
theorem stRw_len : ∀ l : List StV, (stRw l).length = l.length * 5
  | [] => by simp [stRw]
  | x :: r => by
    have := stRw_len r
    show (stCs x ++ stRw r).length = _
    rw [List.length_append, this, List.length_cons]; simp [stCs]; omega
theorem stRw_snoc (l : List StV) (x : StV) : stRw (l ++ [x]) = stRw l ++ stCs x := by unfold stRw; simp
theorem stRw_at : ∀ (l : List StV) (j i : Nat) (hj : j < l.length), i < 5 → (stRw l)[j * 5 + i]? = (stCs l[j])[i]?
  | x :: r, 0, i, _, hi => by
    show (stCs x ++ stRw r)[0 * 5 + i]? = _
    rw [List.getElem?_append_left (by simp [stCs]; omega)]; simp
  | x :: r, j + 1, i, hj, hi => by
    show (stCs x ++ stRw r)[(j + 1) * 5 + i]? = _
    rw [List.getElem?_append_right (by simp [stCs]; omega)]
    have e : (j + 1) * 5 + i - (stCs x).length = j * 5 + i := by simp [stCs]; omega
    rw [e]
    exact stRw_at r j i (by simpa using hj) hi
/-- States lie at an address. -/
structure StsAt (w : World) (ao : Option Addr) (l : List StV) : Prop where
  nil : ao = none → l = []
  spot : ∀ a, ao = some a → a.off = 0 ∧ a.spot = none
  cells : ∀ g, ao = some ⟨g, 0, none⟩ → ∀ i (h : i < l.length), w.cell? ⟨g, i * 5, none⟩ = some (.int .i64 l[i].d) ∧ w.cell? ⟨g, i * 5 + 1, none⟩ = some (.int .i64 l[i].l) ∧ w.cell? ⟨g, i * 5 + 2, none⟩ = some (.int .i64 l[i].f) ∧ w.cell? ⟨g, i * 5 + 3, none⟩ = some (.int .i64 l[i].g) ∧ w.cell? ⟨g, i * 5 + 4, none⟩ = some (.int .i64 l[i].m)
theorem gcell {w w' : World} (g : w.grownBy w' none) {p : Addr} {v : Value} (h : w.cell? p = some v) : w'.cell? p = some v := g.cell h (by simp)
theorem StsAt.grown {w w' : World} {ao : Option Addr} {l : List StV} (h : StsAt w ao l) (g : w.grownBy w' none) : StsAt w' ao l :=
  ⟨h.nil, h.spot, fun b hb i hi => by
    obtain ⟨h0, h1, h2, h3, h4⟩ := h.cells b hb i hi
    exact ⟨gcell g h0, gcell g h1, gcell g h2, gcell g h3, gcell g h4⟩⟩
theorem own_sts {w : World} {base : Nat} {v : Value} {l : List StV} (h : w.ownsRow base 103 5 v l.length (stRw l)) : ∃ ao cap, v = .slice ao l.length cap ∧ StsAt w ao l := by
  rcases h.2 with ⟨hv, h0⟩ | ⟨g, cap, cur, hv, hb, hg, _⟩
  · have hl : l = [] := List.eq_nil_of_length_eq_zero h0
    subst hl
    exact ⟨none, 0, hv, ⟨fun _ => rfl, fun a h => by simp at h, fun a h => by simp at h⟩⟩
  · refine ⟨some ⟨g, 0, none⟩, cap, hv, ⟨fun h => by simp at h, fun a ha => by cases ha; exact ⟨rfl, rfl⟩, fun b hb2 i hi => ?_⟩⟩
    injection hb2 with hb2; injection hb2 with hb2 _ _
    subst hb2
    have q : ∀ (k : Nat) (u : Value), k < 5 → (stCs l[i])[k]? = some u → w.cell? ⟨g, i * 5 + k, none⟩ = some u := fun k u hk hu => by
      have := h.cells (g := g) (by rw [hv]; rfl) (i * 5 + k) u (by rw [stRw_at l i k hi hk]; exact hu)
      rw [addz] at this; exact this
    exact ⟨q 0 _ (by omega) rfl, q 1 _ (by omega) rfl, q 2 _ (by omega) rfl, q 3 _ (by omega) rfl, q 4 _ (by omega) rfl⟩
theorem sts_at {w : World} {ao : Option Addr} {l : List StV} (h : StsAt w ao l) (hne : 0 < l.length) : ∃ g, ao = some ⟨g, 0, none⟩ ∧ ∀ i (h : i < l.length), w.cell? ⟨g, i * 5, none⟩ = some (.int .i64 l[i].d) ∧ w.cell? ⟨g, i * 5 + 1, none⟩ = some (.int .i64 l[i].l) ∧ w.cell? ⟨g, i * 5 + 2, none⟩ = some (.int .i64 l[i].f) ∧ w.cell? ⟨g, i * 5 + 3, none⟩ = some (.int .i64 l[i].g) ∧ w.cell? ⟨g, i * 5 + 4, none⟩ = some (.int .i64 l[i].m) := by
  cases hao : ao with
  | none => have := h.nil hao; subst this; simp at hne
  | some p =>
    obtain ⟨b, off, spot⟩ := p
    obtain ⟨e1, e2⟩ := h.spot _ hao
    simp only at e1 e2
    subst e1; subst e2
    exact ⟨b, rfl, fun i hi => h.cells b hao i hi⟩

set_option maxHeartbeats 1600000 in
theorem equal_sts {w : World} {a1 a2 : Option Addr} {c1 c2 : Nat} {L : List StV} (h1 : StsAt w a1 L) (h2 : StsAt w a2 L) (hn : (L.length : Int) ≤ 9223372036854775807) :
    Calls Try.prog 75 #[.slice a1 L.length c1, .slice a2 L.length c2] w fun e w' => e = .returned (.bool true) ∧ w.grownBy w' none := by
  have Q1 := Lib.hid h1; have Q2 := Lib.hid h2
  clear h1 h2
  go_enter Try.func75, Try.ntmps75
  go_wp2_with fail
  go_loopw [13] (fun iv wr => ∃ k : Nat, k ≤ L.length ∧ iv = .int .i64 k ∧ Hid (w.grownBy wr none)) (fun iv _ => L.length - (intOf iv).toNat)
  case atStart => exact ⟨0, Nat.zero_le _, rfl, World.grownBy.refl _ _⟩
  case round =>
    obtain ⟨k, hk, rfl, hg⟩ := hrel
    by_cases hlt : k < L.length
    · obtain ⟨b1, rfl, q1⟩ := sts_at (Q1.out.grown hg.out) (by omega)
      obtain ⟨b2, rfl, q2⟩ := sts_at (Q2.out.grown hg.out) (by omega)
      obtain ⟨x0, x1, x2, x3, x4⟩ := q1 k hlt
      obtain ⟨y0, y1, y2, y3, y4⟩ := q2 k hlt
      generalize L[k] = h at *
      obtain ⟨z0, z1, z2, z3, z4⟩ := h
      simp only at x0 x1 x2 x3 x4 y0 y1 y2 y3 y4
      clear q1 q2
      go_wp2_with fail
      go_quiet (fail)
      go_wp2_with fail
      go_roundw
      case rel => exact ⟨k + 1, by omega, by go_num, hg.out.trans (grown_drewN _ _ _)⟩
      case measure => simp [intOf]; omega
    · go_wp2_with fail
      go_ret
      exact ⟨rfl, hg.out⟩
end Go.Proofs.Yteaifonpkdjkcaa
