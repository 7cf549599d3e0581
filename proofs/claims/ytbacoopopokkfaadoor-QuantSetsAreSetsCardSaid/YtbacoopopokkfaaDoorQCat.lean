/- slices.Concat of two lists of spans: a row of one's own. -/
import Derived.Test.YtbacoopopokkfaaDoorQSpB
namespace Go.Proofs.YtbacoopopokkfaaDoor
open Go.RowKit
set_option linter.unusedSimpArgs false
set_option linter.unusedVariables false

def spRw (l : List SpV) : List Value := l.flatMap spCs
theorem spRw_len (l : List SpV) : (spRw l).length = l.length * 2 := mflat_len spCs 2 (fun _ => rfl) l
theorem spRw_one (l : List SpV) : ∀ u ∈ spRw l, u.oneCell' = true := by
  intro u hu
  unfold spRw at hu
  obtain ⟨x, _, hx⟩ := List.mem_flatMap.1 hu
  simp only [spCs, List.mem_cons, List.not_mem_nil, or_false] at hx
  rcases hx with rfl | rfl <;> rfl
theorem own_empty {w : World} {base : Nat} (e : TypeId) (size : Nat) {g cap : Nat} {cur : Array Value} (hb : base ≤ g) (hg : w.heap[g]? = some (.cells cur e (0, 0))) (hm : cap ≤ maxLen) (hs : cur.size = cap * size) : w.ownsRow base e size (.slice (some ⟨g, 0, none⟩) 0 cap) 0 [] :=
  ⟨by simp, .inr ⟨g, cap, cur, rfl, hb, hg, Nat.zero_le _, hm, hs, by simp⟩⟩

set_option maxRecDepth 100000 in
set_option maxHeartbeats 1600000 in
theorem grow_sp (n : Nat) (hn : n ≤ 100000) (w : World) :
    Calls Tryd.prog 48 #[.slice none 0 0, .int .i64 n] w fun e w' => (∃ v, e = .returned v ∧ w'.ownsRow w.heap.size 37 2 v 0 []) ∧ w.grownBy w' none := by
  obtain ⟨i0, hi, hz0, hz1, hz2⟩ := info_parts zero_sp
  by_cases h0 : n = 0
  · subst h0
    go_enter Tryd.func48, Tryd.ntmps48
    go_wp2_with fail
    go_ret
    exact ⟨⟨_, rfl, World.ownsRow_nil _ _ _ _⟩, World.grownBy.refl _ _⟩
  · have happ := Lib.run_append_nil_zeros (P := Tryd.prog) w 22 3 22 37 i0 (.agg #[.int .i64 0, .int .i64 0]) .i64 .i64 Tryd.underlying22 Tryd.underlying3 hi hz0 n (by omega) (by omega) (by omega) (by rw [hz2]; omega)
    generalize hcap : grownCap w n 0 37 = cap2 at happ
    have hcapge : n ≤ cap2 := by rw [← hcap]; exact grownCap_ge w _ 0 _
    have hcaple : cap2 ≤ maxLen := by rw [← hcap]; exact grownCap_le_maxLen w _ 0 _ (by unfold maxLen; omega)
    generalize hZ : (Builtin.zeroCells (.agg #[.int .i64 0, .int .i64 0] : Value).cells n ++ Builtin.zeroCells (.agg #[.int .i64 0, .int .i64 0] : Value).cells (cap2 - n)) = Z at happ
    have hZs : Z.size = cap2 * 2 := by rw [← hZ]; simp [size_zeroCells, Value.cells]; omega
    clear hcap hZ
    go_enter Tryd.func48, Tryd.ntmps48
    go_wp2_with (at_builtin; refine Lib.wpList_append_run _ rfl _ _ _ _ rfl _ _ rfl rfl _ _ happ ?_)
    go_ret
    refine ⟨⟨_, rfl, own_empty _ _ (Nat.le_refl _) (heap_alloc_new w _) hcaple hZs⟩, ?_⟩
    exact grown_drewN (w.alloc _) none 1 |> World.grownBy.trans (World.grownBy_alloc w _ none)

/-- The first k of two lists, one after the other. -/
def cat2 {α : Type} (X Y : List α) (k : Nat) : List α := if k = 0 then [] else if k = 1 then X else X ++ Y
theorem grown_any {w wt w2 : World} {r : Option Nat} (h : w.grownBy wt none) (g : wt.grownBy w2 r) (hr : ∀ k, r = some k → w.heap.size ≤ k) : w.grownBy w2 none :=
  ⟨g.os.trans h.os, g.tape.trans h.tape, g.output.trans h.output, Nat.le_trans h.size g.size, fun i hi _ => (g.block i (by have := h.size; omega) (fun e => by have := hr i e.symm; omega)).trans (h.block i hi (by simp))⟩

set_option maxRecDepth 100000 in
set_option maxHeartbeats 3200000 in
theorem concat_sp (g cc : Nat) (o1 o2 : Option Addr) (c1 c2 : Nat) (X Y : List SpV) (hX : X.length ≤ 20000) (hY : Y.length ≤ 20000) (w : World)
    (q1 : w.cell? ⟨g, 0, none⟩ = some (.slice o1 X.length c1)) (q2 : w.cell? ⟨g, 1, none⟩ = some (.slice o2 Y.length c2)) (hg : g < w.heap.size) (h1 : RowsAt spCs 2 w o1 X) (h2 : RowsAt spCs 2 w o2 Y) :
    Calls Tryd.prog 23 #[.slice (some ⟨g, 0, none⟩) 2 cc] w fun e w' => (∃ v, e = .returned v ∧ w'.ownsRow w.heap.size 37 2 v (X ++ Y).length (spRw (X ++ Y))) ∧ w.grownBy w' none := by
  obtain ⟨i0, hi, hz0, hz1, hz2⟩ := info_parts zero_sp
  have H1 := Lib.hid h1; have H2 := Lib.hid h2; have HG := Lib.hid hg
  have HX := Lib.hid hX; have HY := Lib.hid hY
  have Q1 := Lib.hid q1; have Q2 := Lib.hid q2
  have HLEN : Hid ((X ++ Y).length = X.length + Y.length) := List.length_append
  have W1 : IntKind.i64.wrap (0 + (X.length : Int)) = X.length := by rw [Int.zero_add]; exact IntWalk.i64_in _ (by omega)
  have W2 : IntKind.i64.wrap ((X.length : Int) + (Y.length : Int)) = ((X.length + Y.length : Nat) : Int) := by rw [IntWalk.i64_in _ (by omega)]; simp
  clear h1 h2 hg
  go_enter Tryd.func23, Tryd.ntmps23
  go_wp2_with fail
  go_loopw [3, 11] (fun sv iv wr => w = wr ∧ ((iv = .int .i64 0 ∧ sv = .int .i64 0) ∨ (iv = .int .i64 1 ∧ sv = .int .i64 (X.length : Nat)) ∨ (iv = .int .i64 2 ∧ sv = .int .i64 (X.length + Y.length : Nat))))
    (fun _ iv _ => 2 - (intOf iv).toNat)
  case atStart => exact ⟨rfl, Or.inl ⟨rfl, rfl⟩⟩
  case round =>
    obtain ⟨rfl, ⟨rfl, rfl⟩ | ⟨rfl, rfl⟩ | ⟨rfl, rfl⟩⟩ := hrel
    · go_wp2_with fail
      go_roundw
      case rel => exact ⟨by trivial, Or.inr (Or.inl ⟨rfl, rfl⟩)⟩
      case measure => decide
    · go_wp2_with fail
      go_roundw
      case rel => exact ⟨by trivial, Or.inr (Or.inr ⟨rfl, rfl⟩)⟩
      case measure => decide
    · go_wp2_with fail
      refine (grow_sp (X.length + Y.length) (by have := HX.out; have := HY.out; omega) _).mono ?_
      rintro e w1 ⟨⟨v0, rfl, hv0⟩, hg0⟩
      have V0 := Lib.hid hv0; have G0 := Lib.hid hg0
      clear hv0 hg0
      go_wp2_with fail
      go_loopw [6, 27] (fun vv iv wr => (∃ (k : Nat) (v : Value), v = vv ∧ k ≤ 2 ∧ iv = .int .i64 k ∧ Hid (wr.ownsRow w.heap.size 37 2 v (cat2 X Y k).length (spRw (cat2 X Y k)))) ∧ Hid (w.grownBy wr none))
        (fun _ iv _ => 2 - (intOf iv).toNat)
      case atStart => exact ⟨⟨0, _, rfl, by omega, rfl, V0.out⟩, G0.out⟩
      case round =>
        clear V0 G0
        obtain ⟨⟨k, v, hv, hk, rfl, hO⟩, hG⟩ := hrel
        subst hv
        have hlt := hO.out.lt
        have hrow : ∀ q, v.ownBlock = some q → w.heap.size ≤ q := fun q e => (hlt q e).1
        have HR := Lib.hid hrow
        clear hlt hrow
        by_cases hk0 : k = 0
        · subst hk0
          have hO0 : Hid (wr.ownsRow w.heap.size 37 2 v 0 []) := hO
          have p1 := hG.out.cell Q1.out (by simp)
          go_wp2_with (at_builtin; refine wpList_append_srcO _ rfl _ _ 22 rfl w.heap.size 37 i0 (.agg #[.int .i64 0, .int .i64 0]) 2 16 Tryd.underlying22 hi hz0 hz1 hz2 rfl (by decide) _ _ _ rfl hO0.out _ _ _ _ rfl (rows_src spCs_len (by omega) (H1.out.grown hG.out)) (spRw_len _) (spRw_one _) (by unfold maxLen; omega) (by omega) (by have := hG.out.size; exact this) ?_; intro v2 w2 hown hgrow)
          have HN : Hid (w2.ownsRow w.heap.size 37 2 v2 (cat2 X Y 1).length (spRw (cat2 X Y 1))) := by
            rw [Nat.zero_add, List.nil_append] at hown; exact hown
          have HN2 := Lib.hid (grown_any hG.out hgrow HR.out)
          clear hown hgrow
          go_wp2_with fail
          go_roundw
          case rel => exact ⟨⟨1, v2, rfl, by omega, rfl, HN.out⟩, HN2.out⟩
          case measure => decide
        · by_cases hk1 : k = 1
          · subst hk1
            have hO0 : Hid (wr.ownsRow w.heap.size 37 2 v X.length (spRw X)) := hO
            have p1 := hG.out.cell Q2.out (by simp)
            go_wp2_with (at_builtin; refine wpList_append_srcO _ rfl _ _ 22 rfl w.heap.size 37 i0 (.agg #[.int .i64 0, .int .i64 0]) 2 16 Tryd.underlying22 hi hz0 hz1 hz2 rfl (by decide) _ _ _ rfl hO0.out _ _ _ _ rfl (rows_src spCs_len (by omega) (H2.out.grown hG.out)) (spRw_len _) (spRw_one _) (by unfold maxLen; omega) (by omega) (by have := hG.out.size; exact this) ?_; intro v2 w2 hown hgrow)
            have HN : Hid (w2.ownsRow w.heap.size 37 2 v2 (cat2 X Y 2).length (spRw (cat2 X Y 2))) := by
              show w2.ownsRow w.heap.size 37 2 v2 (X ++ Y).length (spRw (X ++ Y))
              rw [List.length_append, show spRw (X ++ Y) = spRw X ++ spRw Y by simp [spRw]]; exact hown
            have HN2 := Lib.hid (grown_any hG.out hgrow HR.out)
            clear hown hgrow
            go_wp2_with fail
            go_roundw
            case rel => exact ⟨⟨2, v2, rfl, by omega, rfl, HN.out⟩, HN2.out⟩
            case measure => decide
          · obtain rfl : k = 2 := by omega
            go_wp2_with fail
            go_ret
            exact ⟨⟨_, rfl, hO.out⟩, hG.out⟩

end Go.Proofs.YtbacoopopokkfaaDoor
