/- slices.Concat of two rows, for samples, laps and strings: a row of one's own. -/
import Derived.Test.YtgkhhfojioepgaaTGrowZ
import Derived.Test.YtgkhhfojioepgaaBaseE
namespace Go.Proofs.Ytgkhhfojioepgaa
open Go.RowKit
set_option linter.unusedSimpArgs false
set_option linter.unusedVariables false
section
variable {P : Program} (w : World)
theorem run_app_any_nil (t ty e : TypeId) (i : TypeInfo) (ht : P.underlying t = some (.slice e)) (hi : P.info? e = some i) (s : Option Addr) (n c c' : Nat) (hn : n ≤ c) : (Builtin.append_ #[t, t] ty #[.slice s n c, .slice none 0 c']).run P w = .ok (.slice s n c) w := by
  simp [Builtin.append_, run_underlying ht, sizeOf, typeInfo, hi, Builtin.lenOf, Builtin.firstCells, hn]
  cases s <;> simp [storeCells]

/-- append of a list, wherever it lies, to a row of one's own. -/
theorem wpList_append_srcO {ops : Array Oper} {rest : List Oper} {o : Oper} {a : Go.Act} {Q : Exit → Go.Act → World → Prop} (hgd : o.guard = none) (s x : Operand) (t : TypeId)
    (ho : o.op = .call { callee := .builtin .append, args := #[s, x], argTypes := #[t, t] })
    (base : Nat) (e : TypeId) (i : TypeInfo) (z : Value) (size bytes : Nat) (ht : P.underlying t = some (.slice e)) (hi : P.info? e = some i) (hz : i.zero = some z)
    (hsize : i.size = size) (hby : i.bytes = bytes) (hzs : z.cells.size = size) (hsz : 0 < size)
    (v : Value) (n : Nat) (xs : List Value) (hs : a.eval s = v) (hown : w.ownsRow base e size v n xs)
    (ao : Option Addr) (m c : Nat) (news : List Value) (hx : a.eval x = .slice ao m c) (hr : SrcAt w ao m news) (hl : news.length = m * size) (h1 : ∀ u ∈ news, u.oneCell' = true)
    (h63 : n + m ≤ maxLen) (hbytes : (n + m) * bytes ≤ 140737488355328) (hbase : base ≤ w.heap.size)
    (h : ∀ v' w', w'.ownsRow base e size v' (n + m) (xs ++ news) → w.grownBy w' v.ownBlock → wpList P ops Q rest (a.put o.dst v') w') : wpList P ops Q (o :: rest) a w := by
  rcases hr with ⟨rfl, rfl, rfl⟩ | ⟨ad, rfl, hc⟩
  · obtain ⟨s0, n0, c0, rfl, hnc⟩ : ∃ s0 n0 c0, v = .slice s0 n0 c0 ∧ n0 ≤ c0 := by
      rcases hown.2 with ⟨e, _⟩ | ⟨g, cap, _, e, _, _, hc, _⟩
      · exact ⟨_, _, _, e, Nat.le_refl _⟩
      · exact ⟨_, _, _, e, hc⟩
    refine wpList_plain hgd fun _ hK => ?_
    have hr := run_app_any_nil (P := P) w t o.type e i ht hi s0 n0 c0 c hnc
    unfold Oper.wp execOp
    simp only [ho, resolve, invoke, builtin, Sem.run_bind, Sem.run_pure, Result.andThen_ok, List.map_toArray, List.map_cons, List.map_nil, hs, hx, hr]
    exact hK _ _ (h _ _ (by simpa using hown) (World.grownBy.refl _ _))
  · exact wpList_append_own w hgd s x t ho base e i z size bytes ht hi hz hsize hby hzs hsz v n xs hs hown ad m c news hx hl hc h1 h63 hbytes hbase fun v' w' h2 h3 _ => h v' w' h2 h3
end

/-- The first k of two lists, one after the other. -/
def cat2 {α : Type} (X Y : List α) (k : Nat) : List α := if k = 0 then [] else if k = 1 then X else X ++ Y
theorem grown_any {w wt w2 : World} {r : Option Nat} (h : w.grownBy wt none) (g : wt.grownBy w2 r) (hr : ∀ k, r = some k → w.heap.size ≤ k) : w.grownBy w2 none :=
  ⟨g.os.trans h.os, g.tape.trans h.tape, g.output.trans h.output, Nat.le_trans h.size g.size, fun i hi _ => (g.block i (by have := h.size; omega) (fun e => by have := hr i e.symm; omega)).trans (h.block i hi (by simp))⟩

set_option maxRecDepth 100000 in
set_option maxHeartbeats 3200000 in
theorem concat_smps (g cc : Nat) (o1 o2 : Option Addr) (c1 c2 : Nat) (X Y : List Smp) (hX : X.length ≤ 20000) (hY : Y.length ≤ 20000) (w : World)
    (q1 : w.cell? ⟨g, 0, none⟩ = some (.slice o1 X.length c1)) (q2 : w.cell? ⟨g, 1, none⟩ = some (.slice o2 Y.length c2)) (hg : g < w.heap.size) (h1 : SmpsAt w o1 X) (h2 : SmpsAt w o2 Y) :
    Calls Try.prog 84 #[.slice (some ⟨g, 0, none⟩) 2 cc] w fun e w' => (∃ v, e = .returned v ∧ w'.ownsRow w.heap.size 28 7 v (X ++ Y).length (smpRw (X ++ Y))) ∧ w.grownBy w' none := by
  obtain ⟨i0, hi, hz0, hz1, hz2⟩ := info_parts cinfo_smps
  have H1 := Lib.hid h1; have H2 := Lib.hid h2; have HG := Lib.hid hg
  have HX := Lib.hid hX; have HY := Lib.hid hY
  have Q1 := Lib.hid q1; have Q2 := Lib.hid q2
  have HLEN : Hid ((X ++ Y).length = X.length + Y.length) := List.length_append
  have W1 : IntKind.i64.wrap (0 + (X.length : Int)) = X.length := by rw [Int.zero_add]; exact IntWalk.i64_in _ (by omega)
  have W2 : IntKind.i64.wrap ((X.length : Int) + (Y.length : Int)) = ((X.length + Y.length : Nat) : Int) := by rw [IntWalk.i64_in _ (by omega)]; simp
  clear h1 h2 hg
  go_enter Try.func84, Try.ntmps84
  go_wp2_with fail
  go_loopw [3, 11] (fun sv iv wr => w = wr ∧ ((iv = .int .i64 0 ∧ sv = .int .i64 0) ∨ (iv = .int .i64 1 ∧ sv = .int .i64 (X.length : Nat)) ∨ (iv = .int .i64 2 ∧ sv = .int .i64 (X.length + Y.length : Nat))))
    (fun _ iv _ => 2 - (intOf iv).toNat)
  case atStart => exact ⟨rfl, Or.inl ⟨rfl, rfl⟩⟩
  case round =>
    obtain ⟨rfl, ⟨rfl, rfl⟩ | ⟨rfl, rfl⟩ | ⟨rfl, rfl⟩⟩ := hrel
    · go_wp2_with fail
      go_roundw
      case rel => exact ⟨by trivial, Or.inr (Or.inl ⟨rfl, rfl⟩)⟩
      case measure => decide
    · go_wp2_with fail
      go_roundw
      case rel => exact ⟨by trivial, Or.inr (Or.inr ⟨rfl, rfl⟩)⟩
      case measure => decide
    · go_wp2_with fail
      refine (grow_smps (X.length + Y.length) (by have := HX.out; have := HY.out; omega) _).mono ?_
      rintro e w1 ⟨⟨v0, rfl, hv0⟩, hg0⟩
      have V0 := Lib.hid hv0; have G0 := Lib.hid hg0
      clear hv0 hg0
      go_wp2_with fail
      go_loopw [6, 27] (fun vv iv wr => (∃ (k : Nat) (v : Value), v = vv ∧ k ≤ 2 ∧ iv = .int .i64 k ∧ Hid (wr.ownsRow w.heap.size 28 7 v (cat2 X Y k).length (smpRw (cat2 X Y k)))) ∧ Hid (w.grownBy wr none))
        (fun _ iv _ => 2 - (intOf iv).toNat)
      case atStart => exact ⟨⟨0, _, rfl, by omega, rfl, V0.out⟩, G0.out⟩
      case round =>
        clear V0 G0
        obtain ⟨⟨k, v, hv, hk, rfl, hO⟩, hG⟩ := hrel
        subst hv
        have hlt := hO.out.lt
        have hrow : ∀ q, v.ownBlock = some q → w.heap.size ≤ q := fun q e => (hlt q e).1
        have HR := Lib.hid hrow
        clear hlt hrow
        by_cases hk0 : k = 0
        · subst hk0
          have hO0 : Hid (wr.ownsRow w.heap.size 28 7 v 0 []) := hO
          have p1 := hG.out.cell Q1.out (by simp)
          go_wp2_with (at_builtin; refine wpList_append_srcO _ rfl _ _ 22 rfl w.heap.size 28 i0 (.agg #[.int .i64 0, .int .i64 0, .int .i64 0, .int .i64 0, .int .i64 0, .int .i64 0, .int .i64 0]) 7 56 Try.underlying22 hi hz0 hz1 hz2 rfl (by decide) _ _ _ rfl hO0.out _ _ _ _ rfl (H1.out.grown hG.out).src (smpRw_len _) (smpRw_one _) (by unfold maxLen; omega) (by omega) (by have := hG.out.size; exact this) ?_; intro v2 w2 hown hgrow)
          have HN : Hid (w2.ownsRow w.heap.size 28 7 v2 (cat2 X Y 1).length (smpRw (cat2 X Y 1))) := by
            rw [Nat.zero_add, List.nil_append] at hown; exact hown
          have HN2 := Lib.hid (grown_any hG.out hgrow HR.out)
          clear hown hgrow
          go_wp2_with fail
          go_roundw
          case rel => exact ⟨⟨1, v2, rfl, by omega, rfl, HN.out⟩, HN2.out⟩
          case measure => decide
        · by_cases hk1 : k = 1
          · subst hk1
            have hO0 : Hid (wr.ownsRow w.heap.size 28 7 v X.length (smpRw X)) := hO
            have p1 := hG.out.cell Q2.out (by simp)
            go_wp2_with (at_builtin; refine wpList_append_srcO _ rfl _ _ 22 rfl w.heap.size 28 i0 (.agg #[.int .i64 0, .int .i64 0, .int .i64 0, .int .i64 0, .int .i64 0, .int .i64 0, .int .i64 0]) 7 56 Try.underlying22 hi hz0 hz1 hz2 rfl (by decide) _ _ _ rfl hO0.out _ _ _ _ rfl (H2.out.grown hG.out).src (smpRw_len _) (smpRw_one _) (by unfold maxLen; omega) (by omega) (by have := hG.out.size; exact this) ?_; intro v2 w2 hown hgrow)
            have HN : Hid (w2.ownsRow w.heap.size 28 7 v2 (cat2 X Y 2).length (smpRw (cat2 X Y 2))) := by
              show w2.ownsRow w.heap.size 28 7 v2 (X ++ Y).length (smpRw (X ++ Y))
              rw [List.length_append, show smpRw (X ++ Y) = smpRw X ++ smpRw Y by simp [smpRw]]; exact hown
            have HN2 := Lib.hid (grown_any hG.out hgrow HR.out)
            clear hown hgrow
            go_wp2_with fail
            go_roundw
            case rel => exact ⟨⟨2, v2, rfl, by omega, rfl, HN.out⟩, HN2.out⟩
            case measure => decide
          · obtain rfl : k = 2 := by omega
            go_wp2_with fail
            go_ret
            exact ⟨⟨_, rfl, hO.out⟩, hG.out⟩

set_option maxRecDepth 100000 in
set_option maxHeartbeats 3200000 in
theorem concat_laps (g cc : Nat) (o1 o2 : Option Addr) (c1 c2 : Nat) (X Y : List LapV) (hX : X.length ≤ 20000) (hY : Y.length ≤ 20000) (w : World)
    (q1 : w.cell? ⟨g, 0, none⟩ = some (.slice o1 X.length c1)) (q2 : w.cell? ⟨g, 1, none⟩ = some (.slice o2 Y.length c2)) (hg : g < w.heap.size) (h1 : LapsAt w o1 X) (h2 : LapsAt w o2 Y) :
    Calls Try.prog 85 #[.slice (some ⟨g, 0, none⟩) 2 cc] w fun e w' => (∃ v, e = .returned v ∧ w'.ownsRow w.heap.size 77 3 v (X ++ Y).length (lapRw (X ++ Y))) ∧ w.grownBy w' none := by
  obtain ⟨i0, hi, hz0, hz1, hz2⟩ := info_parts cinfo_laps
  have H1 := Lib.hid h1; have H2 := Lib.hid h2; have HG := Lib.hid hg
  have HX := Lib.hid hX; have HY := Lib.hid hY
  have Q1 := Lib.hid q1; have Q2 := Lib.hid q2
  have HLEN : Hid ((X ++ Y).length = X.length + Y.length) := List.length_append
  have W1 : IntKind.i64.wrap (0 + (X.length : Int)) = X.length := by rw [Int.zero_add]; exact IntWalk.i64_in _ (by omega)
  have W2 : IntKind.i64.wrap ((X.length : Int) + (Y.length : Int)) = ((X.length + Y.length : Nat) : Int) := by rw [IntWalk.i64_in _ (by omega)]; simp
  clear h1 h2 hg
  go_enter Try.func85, Try.ntmps85
  go_wp2_with fail
  go_loopw [3, 11] (fun sv iv wr => w = wr ∧ ((iv = .int .i64 0 ∧ sv = .int .i64 0) ∨ (iv = .int .i64 1 ∧ sv = .int .i64 (X.length : Nat)) ∨ (iv = .int .i64 2 ∧ sv = .int .i64 (X.length + Y.length : Nat))))
    (fun _ iv _ => 2 - (intOf iv).toNat)
  case atStart => exact ⟨rfl, Or.inl ⟨rfl, rfl⟩⟩
  case round =>
    obtain ⟨rfl, ⟨rfl, rfl⟩ | ⟨rfl, rfl⟩ | ⟨rfl, rfl⟩⟩ := hrel
    · go_wp2_with fail
      go_roundw
      case rel => exact ⟨by trivial, Or.inr (Or.inl ⟨rfl, rfl⟩)⟩
      case measure => decide
    · go_wp2_with fail
      go_roundw
      case rel => exact ⟨by trivial, Or.inr (Or.inr ⟨rfl, rfl⟩)⟩
      case measure => decide
    · go_wp2_with fail
      refine (grow_laps (X.length + Y.length) (by have := HX.out; have := HY.out; omega) _).mono ?_
      rintro e w1 ⟨⟨v0, rfl, hv0⟩, hg0⟩
      have V0 := Lib.hid hv0; have G0 := Lib.hid hg0
      clear hv0 hg0
      go_wp2_with fail
      go_loopw [6, 27] (fun vv iv wr => (∃ (k : Nat) (v : Value), v = vv ∧ k ≤ 2 ∧ iv = .int .i64 k ∧ Hid (wr.ownsRow w.heap.size 77 3 v (cat2 X Y k).length (lapRw (cat2 X Y k)))) ∧ Hid (w.grownBy wr none))
        (fun _ iv _ => 2 - (intOf iv).toNat)
      case atStart => exact ⟨⟨0, _, rfl, by omega, rfl, V0.out⟩, G0.out⟩
      case round =>
        clear V0 G0
        obtain ⟨⟨k, v, hv, hk, rfl, hO⟩, hG⟩ := hrel
        subst hv
        have hlt := hO.out.lt
        have hrow : ∀ q, v.ownBlock = some q → w.heap.size ≤ q := fun q e => (hlt q e).1
        have HR := Lib.hid hrow
        clear hlt hrow
        by_cases hk0 : k = 0
        · subst hk0
          have hO0 : Hid (wr.ownsRow w.heap.size 77 3 v 0 []) := hO
          have p1 := hG.out.cell Q1.out (by simp)
          go_wp2_with (at_builtin; refine wpList_append_srcO _ rfl _ _ 23 rfl w.heap.size 77 i0 (.agg #[.int .i64 0, .int .i64 0, .string ⟨#[]⟩]) 3 32 Try.underlying23 hi hz0 hz1 hz2 rfl (by decide) _ _ _ rfl hO0.out _ _ _ _ rfl (H1.out.grown hG.out).src (lapRw_len _) (lapRw_one _) (by unfold maxLen; omega) (by omega) (by have := hG.out.size; exact this) ?_; intro v2 w2 hown hgrow)
          have HN : Hid (w2.ownsRow w.heap.size 77 3 v2 (cat2 X Y 1).length (lapRw (cat2 X Y 1))) := by
            rw [Nat.zero_add, List.nil_append] at hown; exact hown
          have HN2 := Lib.hid (grown_any hG.out hgrow HR.out)
          clear hown hgrow
          go_wp2_with fail
          go_roundw
          case rel => exact ⟨⟨1, v2, rfl, by omega, rfl, HN.out⟩, HN2.out⟩
          case measure => decide
        · by_cases hk1 : k = 1
          · subst hk1
            have hO0 : Hid (wr.ownsRow w.heap.size 77 3 v X.length (lapRw X)) := hO
            have p1 := hG.out.cell Q2.out (by simp)
            go_wp2_with (at_builtin; refine wpList_append_srcO _ rfl _ _ 23 rfl w.heap.size 77 i0 (.agg #[.int .i64 0, .int .i64 0, .string ⟨#[]⟩]) 3 32 Try.underlying23 hi hz0 hz1 hz2 rfl (by decide) _ _ _ rfl hO0.out _ _ _ _ rfl (H2.out.grown hG.out).src (lapRw_len _) (lapRw_one _) (by unfold maxLen; omega) (by omega) (by have := hG.out.size; exact this) ?_; intro v2 w2 hown hgrow)
            have HN : Hid (w2.ownsRow w.heap.size 77 3 v2 (cat2 X Y 2).length (lapRw (cat2 X Y 2))) := by
              show w2.ownsRow w.heap.size 77 3 v2 (X ++ Y).length (lapRw (X ++ Y))
              rw [List.length_append, show lapRw (X ++ Y) = lapRw X ++ lapRw Y by simp [lapRw]]; exact hown
            have HN2 := Lib.hid (grown_any hG.out hgrow HR.out)
            clear hown hgrow
            go_wp2_with fail
            go_roundw
            case rel => exact ⟨⟨2, v2, rfl, by omega, rfl, HN.out⟩, HN2.out⟩
            case measure => decide
          · obtain rfl : k = 2 := by omega
            go_wp2_with fail
            go_ret
            exact ⟨⟨_, rfl, hO.out⟩, hG.out⟩

set_option maxRecDepth 100000 in
set_option maxHeartbeats 3200000 in
theorem concat_tags (g cc : Nat) (o1 o2 : Option Addr) (c1 c2 : Nat) (X Y : List ByteArray) (hX : X.length ≤ 20000) (hY : Y.length ≤ 20000) (w : World)
    (q1 : w.cell? ⟨g, 0, none⟩ = some (.slice o1 X.length c1)) (q2 : w.cell? ⟨g, 1, none⟩ = some (.slice o2 Y.length c2)) (hg : g < w.heap.size) (h1 : TagsAt w o1 X) (h2 : TagsAt w o2 Y) :
    Calls Try.prog 140 #[.slice (some ⟨g, 0, none⟩) 2 cc] w fun e w' => (∃ v, e = .returned v ∧ w'.ownsRow w.heap.size 9 1 v (X ++ Y).length (tagRw (X ++ Y))) ∧ w.grownBy w' none := by
  obtain ⟨i0, hi, hz0, hz1, hz2⟩ := info_parts cinfo_tags
  have H1 := Lib.hid h1; have H2 := Lib.hid h2; have HG := Lib.hid hg
  have HX := Lib.hid hX; have HY := Lib.hid hY
  have Q1 := Lib.hid q1; have Q2 := Lib.hid q2
  have HLEN : Hid ((X ++ Y).length = X.length + Y.length) := List.length_append
  have W1 : IntKind.i64.wrap (0 + (X.length : Int)) = X.length := by rw [Int.zero_add]; exact IntWalk.i64_in _ (by omega)
  have W2 : IntKind.i64.wrap ((X.length : Int) + (Y.length : Int)) = ((X.length + Y.length : Nat) : Int) := by rw [IntWalk.i64_in _ (by omega)]; simp
  clear h1 h2 hg
  go_enter Try.func140, Try.ntmps140
  go_wp2_with fail
  go_loopw [3, 11] (fun sv iv wr => w = wr ∧ ((iv = .int .i64 0 ∧ sv = .int .i64 0) ∨ (iv = .int .i64 1 ∧ sv = .int .i64 (X.length : Nat)) ∨ (iv = .int .i64 2 ∧ sv = .int .i64 (X.length + Y.length : Nat))))
    (fun _ iv _ => 2 - (intOf iv).toNat)
  case atStart => exact ⟨rfl, Or.inl ⟨rfl, rfl⟩⟩
  case round =>
    obtain ⟨rfl, ⟨rfl, rfl⟩ | ⟨rfl, rfl⟩ | ⟨rfl, rfl⟩⟩ := hrel
    · go_wp2_with fail
      go_roundw
      case rel => exact ⟨by trivial, Or.inr (Or.inl ⟨rfl, rfl⟩)⟩
      case measure => decide
    · go_wp2_with fail
      go_roundw
      case rel => exact ⟨by trivial, Or.inr (Or.inr ⟨rfl, rfl⟩)⟩
      case measure => decide
    · go_wp2_with fail
      refine (grow_tags (X.length + Y.length) (by have := HX.out; have := HY.out; omega) _).mono ?_
      rintro e w1 ⟨⟨v0, rfl, hv0⟩, hg0⟩
      have V0 := Lib.hid hv0; have G0 := Lib.hid hg0
      clear hv0 hg0
      go_wp2_with fail
      go_loopw [6, 27] (fun vv iv wr => (∃ (k : Nat) (v : Value), v = vv ∧ k ≤ 2 ∧ iv = .int .i64 k ∧ Hid (wr.ownsRow w.heap.size 9 1 v (cat2 X Y k).length (tagRw (cat2 X Y k)))) ∧ Hid (w.grownBy wr none))
        (fun _ iv _ => 2 - (intOf iv).toNat)
      case atStart => exact ⟨⟨0, _, rfl, by omega, rfl, V0.out⟩, G0.out⟩
      case round =>
        clear V0 G0
        obtain ⟨⟨k, v, hv, hk, rfl, hO⟩, hG⟩ := hrel
        subst hv
        have hlt := hO.out.lt
        have hrow : ∀ q, v.ownBlock = some q → w.heap.size ≤ q := fun q e => (hlt q e).1
        have HR := Lib.hid hrow
        clear hlt hrow
        by_cases hk0 : k = 0
        · subst hk0
          have hO0 : Hid (wr.ownsRow w.heap.size 9 1 v 0 []) := hO
          have p1 := hG.out.cell Q1.out (by simp)
          go_wp2_with (at_builtin; refine wpList_append_srcO _ rfl _ _ 24 rfl w.heap.size 9 i0 (.string ⟨#[]⟩) 1 16 Try.underlying24 hi hz0 hz1 hz2 rfl (by decide) _ _ _ rfl hO0.out _ _ _ _ rfl (H1.out.grown hG.out).src (tagRw_len _) (tagRw_one _) (by unfold maxLen; omega) (by omega) (by have := hG.out.size; exact this) ?_; intro v2 w2 hown hgrow)
          have HN : Hid (w2.ownsRow w.heap.size 9 1 v2 (cat2 X Y 1).length (tagRw (cat2 X Y 1))) := by
            rw [Nat.zero_add, List.nil_append] at hown; exact hown
          have HN2 := Lib.hid (grown_any hG.out hgrow HR.out)
          clear hown hgrow
          go_wp2_with fail
          go_roundw
          case rel => exact ⟨⟨1, v2, rfl, by omega, rfl, HN.out⟩, HN2.out⟩
          case measure => decide
        · by_cases hk1 : k = 1
          · subst hk1
            have hO0 : Hid (wr.ownsRow w.heap.size 9 1 v X.length (tagRw X)) := hO
            have p1 := hG.out.cell Q2.out (by simp)
            go_wp2_with (at_builtin; refine wpList_append_srcO _ rfl _ _ 24 rfl w.heap.size 9 i0 (.string ⟨#[]⟩) 1 16 Try.underlying24 hi hz0 hz1 hz2 rfl (by decide) _ _ _ rfl hO0.out _ _ _ _ rfl (H2.out.grown hG.out).src (tagRw_len _) (tagRw_one _) (by unfold maxLen; omega) (by omega) (by have := hG.out.size; exact this) ?_; intro v2 w2 hown hgrow)
            have HN : Hid (w2.ownsRow w.heap.size 9 1 v2 (cat2 X Y 2).length (tagRw (cat2 X Y 2))) := by
              show w2.ownsRow w.heap.size 9 1 v2 (X ++ Y).length (tagRw (X ++ Y))
              rw [List.length_append, show tagRw (X ++ Y) = tagRw X ++ tagRw Y by simp [tagRw]]; exact hown
            have HN2 := Lib.hid (grown_any hG.out hgrow HR.out)
            clear hown hgrow
            go_wp2_with fail
            go_roundw
            case rel => exact ⟨⟨2, v2, rfl, by omega, rfl, HN.out⟩, HN2.out⟩
            case measure => decide
          · obtain rfl : k = 2 := by omega
            go_wp2_with fail
            go_ret
            exact ⟨⟨_, rfl, hO.out⟩, hG.out⟩
end Go.Proofs.Ytgkhhfojioepgaa
