/- slices.Clone and slices.Reverse of places; the law's far. -/
import Derived.Test.YtckelojdjmaliaaMPlane
import Derived.Lib.SliceRun
import Derived.Maps.AppendAt
import Derived.Laws.AppendOwn
import Derived.BigRegion
namespace Go.Proofs.Ytckelojdjmaliaa
open Go.RowKit
set_option linter.unusedSimpArgs false
set_option linter.unusedVariables false

attribute [local go_sem] Oper.semAt_some

theorem info_pt : (Try.prog.info? 64).map (fun i => (i.zero, i.size, i.bytes)) = some (some (.agg #[.int .i64 0, .int .i64 0]), 2, 16) := by kernel_rfl
theorem mgrown_own {w wr w1 : World} {o : Obj} {row : Option Nat} (h : w.grownBy wr none) (g : (wr.alloc o).grownBy w1 row) (hr : ∀ k, row = some k → w.heap.size ≤ k) : w.grownBy w1 none :=
  ⟨g.os.trans h.os, g.tape.trans h.tape, g.output.trans h.output, by have := g.size; have := h.size; simp at *; omega, fun k hk _ => by
    have hs := h.size
    rw [g.block k (by simp; omega) (fun e => by have := hr k e.symm; omega), Below.heap_alloc _ _ _ (by omega)]
    exact h.block k hk (by simp)⟩
theorem PtsAt.row {w : World} {a : Addr} {l : List Pt} (h : PtsAt w (some a) l) : ∀ k u, (l.flatMap ptCs)[k]? = some u → w.cell? (a.add k) = some u := fun k u hu => by
  have hk : k < (l.flatMap ptCs).length := (List.getElem?_eq_some_iff.1 hu).1
  rw [mflat_len ptCs 2 (fun _ => rfl)] at hk
  have he : k = (k / 2) * 2 + k % 2 := by omega
  have hi : k % 2 < 2 := by omega
  have hj : k / 2 < l.length := by omega
  have hne : l ≠ [] := fun e => by rw [e] at hj; simp at hj
  have hsp := h.spot _ rfl hne
  obtain ⟨b, o, sp⟩ := a
  simp only at hsp; subst hsp
  rw [he, mflat_at ptCs 2 (fun _ => rfl) l _ _ hj hi] at hu
  have := h.cells _ rfl (k / 2) hj (k % 2) u hu
  rw [madd_off, he, ← Nat.add_assoc]; exact this
theorem pts_one (l : List Pt) : ∀ u ∈ l.flatMap ptCs, u.oneCell' = true := fun u hu => by
  obtain ⟨x, _, h⟩ := List.mem_flatMap.1 hu
  simp only [ptCs, List.mem_cons, List.not_mem_nil, or_false] at h
  rcases h with rfl | rfl <;> rfl
set_option maxHeartbeats 2000000 in
set_option maxRecDepth 100000 in
theorem clone_pts (ao : Option Addr) (cap : Nat) (L : List Pt) (hn : L.length ≤ 20000) (w : World) (h : PtsAt w ao L) :
    Calls Try.prog 32 #[.slice ao L.length cap] w fun e w' => (∃ v, e = .returned v ∧ w'.ownsRow w.heap.size 64 2 v L.length (L.flatMap ptCs)) ∧ w.grownBy w' none := by
  have q22 : ∀ (w : World) (a : Option Addr) (n c n' c' : Nat), (binOp .eql 57 (.slice a n c) (.slice none n' c')).run Try.prog w = .ok (.bool a.isNone) w := fun w a n c n' c' => Lib.run_eql_slice_nil w _ _ a n c n' c' Try.underlying57
  obtain ⟨i0, hi, hz0, hz1, hz2⟩ := info_parts info_pt
  have A := Lib.hid h
  clear h
  cases ao with
  | none =>
    have hl : L = [] := A.out.nil rfl
    subst hl
    clear A hi hz0 hz1 hz2
    simp only [List.length_nil]
    go_enter Try.func32, Try.ntmps32
    go_wp2_with fail
    go_ret
    exact ⟨⟨_, rfl, World.ownsRow_nil _ _ _ _⟩, grown_refl _ _⟩
  | some ad =>
    have HN := Lib.hid hn
    go_enter Try.func32, Try.ntmps32
    go_wp2_with (at_builtin; refine wpList_append_own _ rfl _ _ 57 rfl w.heap.size 64 i0 (.agg #[.int .i64 0, .int .i64 0]) 2 16 Try.underlying57 hi hz0 hz1 hz2 rfl (by decide) _ _ _ rfl (World.ownsRow_made w #[] 0 (Nat.le_refl _) (Nat.zero_le _) rfl) ad L.length cap (L.flatMap ptCs) rfl (mflat_len ptCs 2 (fun _ => rfl) L) (PtsAt.row (A.out.grown (World.grownBy_alloc _ _ _))) (pts_one L) (by have := HN.out; unfold maxLen; omega) (by have := HN.out; omega) (by simp) ?_)
    intro v' w1 hown hgrow hnil
    have HO := Lib.hid hown; have HG := Lib.hid hgrow
    clear hown hgrow hnil hi hz0 hz1 hz2
    go_wp2_with fail
    go_ret
    refine ⟨⟨v', rfl, by simpa using HO.out⟩, ?_⟩
    exact mgrown_own (grown_refl w none) HG.out (fun k hk => by simp [Value.ownBlock] at hk; omega)

theorem own_setM {w : World} {base e s g cap n : Nat} {xs : List Value} (h : w.ownsRow base e s (.slice (some ⟨g, 0, none⟩) n cap) n xs) {i : Nat} (v : Value) : (w.setCell ⟨g, i, none⟩ v).ownsRow base e s (.slice (some ⟨g, 0, none⟩) n cap) n (xs.set i v) := by
  rcases h.2 with ⟨hv, _⟩ | ⟨g', cap', cur, hv, hb, hg, h1, h2, h3, h4⟩
  · cases hv
  · injection hv with e1 e2 e3
    injection e1 with e1; injection e1 with e1 _ _
    subst e1; subst e3
    refine ⟨by rw [List.length_set]; exact h.1, .inr ⟨g, cap, cur.setIfInBounds i v, rfl, hb, mblock_set hg _, h1, h2, by rw [Array.size_setIfInBounds]; exact h3, ?_⟩⟩
    rw [Array.toList_setIfInBounds, List.take_set, h4]
theorem pts_set : ∀ (L : List Pt) (i : Nat) (p : Pt), i < L.length → ((L.flatMap ptCs).set (i * 2) (.int .i64 p.x)).set (i * 2 + 1) (.int .i64 p.y) = (L.set i p).flatMap ptCs
  | q :: r, 0, p, _ => by simp [ptCs]
  | q :: r, i + 1, p, h => by
    have ih := pts_set r i p (by simpa using h)
    rw [List.flatMap_cons, List.set_cons_succ, List.flatMap_cons, ← ih]
    have e1 : (i + 1) * 2 = (ptCs q).length + i * 2 := by show _ = 2 + _; omega
    have e2 : (i + 1) * 2 + 1 = (ptCs q).length + (i * 2 + 1) := by show _ = 2 + _; omega
    rw [e2, e1, List.set_append_right _ _ (by omega), List.set_append_right _ _ (by omega), Nat.add_sub_cancel_left, Nat.add_sub_cancel_left]
/-- The list with its first and last k turned. -/
def revK (l : List Pt) (k : Nat) : List Pt := (List.range l.length).map fun p => if p < k ∨ l.length ≤ p + k then ptD l (l.length - 1 - p) else ptD l p
theorem revK_len (l : List Pt) (k : Nat) : (revK l k).length = l.length := by unfold revK; simp
theorem revK_at {l : List Pt} {k p : Nat} (h : p < l.length) : ptD (revK l k) p = if p < k ∨ l.length ≤ p + k then ptD l (l.length - 1 - p) else ptD l p := by
  rw [ptD_at (by rw [revK_len]; exact h)]
  unfold revK
  rw [List.getElem_map, List.getElem_range]
theorem revK_zero (l : List Pt) : revK l 0 = l := by
  apply List.ext_getElem
  · exact revK_len l 0
  · intro i h1 h2
    rw [← ptD_at h1, revK_at h2, if_neg (by omega), ptD_at h2]
theorem revK_done {l : List Pt} {k : Nat} (h : l.length ≤ 2 * k + 1) : revK l k = l.reverse := by
  apply List.ext_getElem
  · rw [revK_len, List.length_reverse]
  · intro i h1 h2
    rw [revK_len] at h1
    rw [← ptD_at (by rw [revK_len]; exact h1), ← ptD_at h2, revK_at h1, ptD_rev h1]
    split
    · rfl
    · rw [show l.length - 1 - i = i by omega]
theorem revK_next {l : List Pt} {k : Nat} (h : 2 * k + 1 < l.length) : ((revK l k).set k (ptD l (l.length - 1 - k))).set (l.length - 1 - k) (ptD l k) = revK l (k + 1) := by
  apply List.ext_getElem
  · rw [List.length_set, List.length_set, revK_len, revK_len]
  · intro i h1 h2
    rw [revK_len] at h2
    rw [List.getElem_set, ← ptD_at (l := revK l (k + 1)) (by rw [revK_len]; exact h2), revK_at h2]
    by_cases e1 : l.length - 1 - k = i
    · rw [if_pos e1, if_pos (by omega)]; congr 1; omega
    · rw [if_neg e1, List.getElem_set]
      by_cases e2 : k = i
      · rw [if_pos e2, if_pos (by omega), e2]
      · rw [if_neg e2, ← ptD_at (l := revK l k) (by rw [revK_len]; exact h2), revK_at h2]
        by_cases e3 : i < k ∨ l.length ≤ i + k
        · rw [if_pos e3, if_pos (by omega)]
        · rw [if_neg e3, if_neg (by omega)]

set_option maxHeartbeats 3200000 in
set_option maxRecDepth 100000 in
theorem reverse_pts (base g cap : Nat) (L : List Pt) (hn : L.length ≤ 20000) (w : World) (h : w.ownsRow base 64 2 (.slice (some ⟨g, 0, none⟩) L.length cap) L.length (L.flatMap ptCs)) :
    Calls Try.prog 33 #[.slice (some ⟨g, 0, none⟩) L.length cap] w fun e w' => e = .returned (.tuple #[]) ∧ w'.ownsRow base 64 2 (.slice (some ⟨g, 0, none⟩) L.length cap) L.length (L.reverse.flatMap ptCs) ∧ w.grownBy w' (some g) := by
  have HO := Lib.hid h
  obtain ⟨n, hnn⟩ : ∃ n, L.length = n := ⟨_, rfl⟩
  have HN := Lib.hid hnn
  rw [hnn] at hn h HO ⊢
  have rn : IntKind.i64.wrap ((n : Int) - 1) = (n : Int) - 1 := IntWalk.i64_in _ (by omega)
  clear h hnn
  go_enter Try.func33, Try.ntmps33
  go_wp2_with fail
  go_loopw [2, 3] (fun iv jv wr => ∃ (k : Nat) (j : Int), iv = .int .i64 k ∧ jv = .int .i64 j ∧ Hid (j = (n : Int) - 1 - k) ∧ Hid (2 * k ≤ n + 1) ∧ Hid (wr.ownsRow base 64 2 (.slice (some ⟨g, 0, none⟩) n cap) n ((revK L k).flatMap ptCs)) ∧ Hid (w.grownBy wr (some g))) (fun iv _ _ => n - (intOf iv).toNat)
  case atStart => exact ⟨0, _, rfl, rfl, by show _ = _; simp, by show _ ≤ _; omega, by show World.ownsRow _ _ _ _ _ _ _; rw [revK_zero]; exact HO.out, World.grownBy.refl _ _⟩
  case round =>
    obtain ⟨k, j, rfl, rfl, hj, hk, ho, hg⟩ := hrel
    have hj' := hj.out; have hk' := hk.out
    by_cases hlt : (k : Int) < j
    · obtain ⟨m, hm⟩ : ∃ m : Nat, j = m := ⟨j.toNat, by omega⟩
      subst hm
      have hm2 : m = n - 1 - k := by omega
      have hRW : RowsAt ptCs 2 wr (some ⟨g, 0, none⟩) (revK L k) := by
        have q := ho.out
        have e : (revK L k).length = n := (revK_len L k).trans HN.out
        rw [← e] at q
        obtain ⟨ao, cp, hv, _, hr, _⟩ := own_rows (cs := ptCs) (fun _ => rfl) q
        injection hv with e1 _ _
        subst e1; exact hr
      have lk : k < (revK L k).length := by rw [revK_len, HN.out]; omega
      have lm : m < (revK L k).length := by rw [revK_len, HN.out]; omega
      have ck0 := hRW.cells _ rfl k lk 0 _ rfl; have ck1 := hRW.cells _ rfl k lk 1 _ rfl
      have cm0 := hRW.cells _ rfl m lm 0 _ rfl; have cm1 := hRW.cells _ rfl m lm 1 _ rfl
      rw [← ptD_at lk, revK_at (by rw [HN.out]; omega), if_neg (by rw [HN.out]; omega)] at ck0 ck1
      rw [← ptD_at lm, revK_at (by rw [HN.out]; omega), if_neg (by rw [HN.out]; omega)] at cm0 cm1
      have HNX : Hid (((revK L k).set k (ptD L m)).set m (ptD L k) = revK L (k + 1)) := by
        have q := revK_next (l := L) (k := k) (by rw [HN.out]; omega)
        rw [HN.out, ← hm2] at q; exact q
      simp only [Nat.zero_add, Nat.add_zero] at ck0 ck1 cm0 cm1
      have HRL : Hid ((revK L k).length = n) := (revK_len L k).trans HN.out
      obtain ⟨cur, hcur⟩ : ∃ cur, wr.heap[g]? = some (.cells cur 64 (0, 0)) := by
        rcases ho.out.2 with ⟨hv, _⟩ | ⟨g', cap', cur, hv, hb, hgg, _⟩
        · cases hv
        · injection hv with e1 _ _
          injection e1 with e1; injection e1 with e1 _ _
          subst e1; exact ⟨cur, hgg⟩
      have f0 := mblock_free (k := k * 2) hcur; have f1 := mblock_free (k := k * 2 + 1) hcur; have f2 := mblock_free (k := m * 2) hcur; have f3 := mblock_free (k := m * 2 + 1) hcur
      have HO2 := Lib.hid ho.out; have HG2 := Lib.hid hg.out
      have kn : (k : Int) < (n : Int) := by omega
      have mn : (m : Int) < (n : Int) := by omega
      have kn2 : k < n := by omega
      have mn2 : m < n := by omega
      have k0 : (0 : Int) ≤ (k : Int) := by omega
      have m0 : (0 : Int) ≤ (m : Int) := by omega
      have HKM : Hid (k < m ∧ m = n - 1 - k ∧ 2 * k + 1 < n) := by show _ ∧ _; omega
      generalize ptD L k = P at *
      generalize ptD L m = Q at *
      obtain ⟨px, py⟩ := P
      obtain ⟨qx, qy⟩ := Q
      simp only at ck0 ck1 cm0 cm1
      clear hRW lk lm ho hg hcur hj hk hj' hk' hm2
      go_wp2_with fail
      go_region
      have HO3 : Hid (((((wr.setCell ⟨g, k * 2, none⟩ (.int .i64 qx)).setCell ⟨g, k * 2 + 1, none⟩ (.int .i64 qy)).setCell ⟨g, m * 2, none⟩ (.int .i64 px)).setCell ⟨g, m * 2 + 1, none⟩ (.int .i64 py)).drew.ownsRow base 64 2 (.slice (some ⟨g, 0, none⟩) n cap) n ((revK L (k + 1)).flatMap ptCs)) := by
        have q := own_setM (own_setM (own_setM (own_setM HO2.out (i := k * 2) (.int .i64 qx)) (i := k * 2 + 1) (.int .i64 qy)) (i := m * 2) (.int .i64 px)) (i := m * 2 + 1) (.int .i64 py)
        have e1 := pts_set (revK L k) k ⟨qx, qy⟩ (by rw [HRL.out]; omega)
        have e2 := pts_set ((revK L k).set k ⟨qx, qy⟩) m ⟨px, py⟩ (by rw [List.length_set, HRL.out]; omega)
        simp only at e1 e2
        rw [e1, e2, HNX.out] at q
        exact q.kept (grown_drewN _ none 1) (Classical.em _)
      have HG3 : Hid (w.grownBy ((((wr.setCell ⟨g, k * 2, none⟩ (.int .i64 qx)).setCell ⟨g, k * 2 + 1, none⟩ (.int .i64 qy)).setCell ⟨g, m * 2, none⟩ (.int .i64 px)).setCell ⟨g, m * 2 + 1, none⟩ (.int .i64 py)).drew (some g)) := by
        have st : ∀ (V : World) (i : Nat) (v : Value), V.grownBy (V.setCell ⟨g, i, none⟩ v) (some g) := fun V i v => ⟨rfl, rfl, rfl, by simp [World.setCell], fun j hj hne => Below.heap_setCell _ _ _ _ (by show j ≠ g; exact fun e => hne (by rw [e]))⟩
        exact grown_trans (grown_trans (grown_trans (grown_trans (grown_trans HG2.out (st _ _ _)) (st _ _ _)) (st _ _ _)) (st _ _ _)) (grown_drewN _ _ 1)
      generalize ((((wr.setCell ⟨g, k * 2, none⟩ (.int .i64 qx)).setCell ⟨g, k * 2 + 1, none⟩ (.int .i64 qy)).setCell ⟨g, m * 2, none⟩ (.int .i64 px)).setCell ⟨g, m * 2 + 1, none⟩ (.int .i64 py)).drew = w5 at *
      have rm1 : IntKind.i64.wrap ((m : Int) - 1) = (m : Int) - 1 := IntWalk.i64_in _ (by omega)
      clear HO2 HG2 f0 f1 f2 f3 ck0 ck1 cm0 cm1
      go_wp2_with fail
      go_roundw
      case rel => exact ⟨k + 1, (m : Int) - 1, by go_num, rfl, by have := HKM.out; show _ = _; omega, by have := HKM.out; show _ ≤ _; omega, HO3.out, HG3.out⟩
      case measure => have := HKM.out; simp [intOf]; omega
    · have hd : revK L k = L.reverse := revK_done (by rw [HN.out]; omega)
      have HO2 : Hid (wr.ownsRow base 64 2 (.slice (some ⟨g, 0, none⟩) n cap) n (L.reverse.flatMap ptCs)) := by
        have q := ho.out
        rw [hd] at q; exact q
      have HG2 := Lib.hid hg.out
      have hl2 : decide ((k : Int) < j) = false := decide_eq_false hlt
      clear ho hg hj hk hj' hk' hd
      go_wp2_with fail
      go_end0
      exact ⟨rfl, HO2.out, HG2.out⟩

theorem far_is (p q : Pt) (hp : onP p) (hq : onP q) (w : World) {n : Int} (h : Hid (sqD p q = n)) :
    Calls Try.prog 34 #[.agg #[.int .i64 p.x, .int .i64 p.y], .agg #[.int .i64 q.x, .int .i64 q.y]] w fun e w' => e = .returned (.int .i64 n) ∧ w.grownBy w' none := by
  obtain ⟨px, py⟩ := p
  obtain ⟨qx, qy⟩ := q
  unfold onP at hp hq
  simp only at hp hq
  have hn : (px - qx) * (px - qx) + (py - qy) * (py - qy) = n := by
    have q := h.out
    unfold sqD at q
    simp only at q
    rw [show px - qx = -(qx - px) by omega, show py - qy = -(qy - py) by omega, Int.neg_mul_neg, Int.neg_mul_neg]; exact q
  clear h
  obtain ⟨dx, hdx⟩ : ∃ d, px - qx = d := ⟨_, rfl⟩
  obtain ⟨dy, hdy⟩ : ∃ d, py - qy = d := ⟨_, rfl⟩
  rw [hdx, hdy] at hn
  have bx := sq_bdM (a := dx) (by omega) (by omega)
  have by_ := sq_bdM (a := dy) (by omega) (by omega)
  have rx : IntKind.i64.wrap (px - qx) = dx := by rw [hdx]; exact IntWalk.i64_in _ (by omega)
  have ry : IntKind.i64.wrap (py - qy) = dy := by rw [hdy]; exact IntWalk.i64_in _ (by omega)
  obtain ⟨X, hX⟩ : ∃ d, dx * dx = d := ⟨_, rfl⟩
  obtain ⟨Y, hY⟩ : ∃ d, dy * dy = d := ⟨_, rfl⟩
  rw [hX, hY] at hn
  rw [hX] at bx; rw [hY] at by_
  have r1 : IntKind.i64.wrap (dx * dx) = X := by rw [hX]; exact IntWalk.i64_in _ (by omega)
  have r2 : IntKind.i64.wrap (dy * dy) = Y := by rw [hY]; exact IntWalk.i64_in _ (by omega)
  have r3 : IntKind.i64.wrap (X + Y) = n := by rw [← hn]; exact IntWalk.i64_in _ (by omega)
  clear hdx hdy hX hY bx by_ hn hp hq
  go_enter Try.func34, Try.ntmps34
  go_wp2_with fail
  go_ret
  exact ⟨rfl, grown_trans (World.grownBy_alloc _ _ _) (World.grownBy_alloc _ _ _)⟩
end Go.Proofs.Ytckelojdjmaliaa
