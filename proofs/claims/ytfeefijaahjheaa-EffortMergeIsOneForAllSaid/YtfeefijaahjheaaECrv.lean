/- The sizes of a curve, of both sides. -/
import Derived.Test.YtfeefijaahjheaaEMrgP
import Derived.Test.YtfeefijaahjheaaMRows
import Derived.Test.YtfeefijaahjheaaOKit
namespace Go.Proofs.Ytfeefijaahjheaa
open Go.RowKit
set_option linter.unusedSimpArgs false
set_option linter.unusedVariables false

theorem bst_at {w : World} {ao : Option Addr} {L : List BestV} (h : RowsAt bestCs 4 w ao L) (hl : 0 < L.length) : ∃ g o, ao = some ⟨g, o, none⟩ ∧ ∀ i (hi : i < L.length),
    w.cell? ⟨g, o + i * 4, none⟩ = some (.int .i64 L[i].sz) ∧ w.cell? ⟨g, o + i * 4 + 1, none⟩ = some (.int .i64 L[i].b.sum) ∧ w.cell? ⟨g, o + i * 4 + 2, none⟩ = some (.int .i64 L[i].b.at_) ∧ w.cell? ⟨g, o + i * 4 + 3, none⟩ = some (.bool L[i].b.found) := by
  obtain ⟨g, o, e, hc⟩ := rows_at h hl
  exact ⟨g, o, e, fun i hi => ⟨hc i hi 0 _ rfl, hc i hi 1 _ rfl, hc i hi 2 _ rfl, hc i hi 3 _ rfl⟩⟩
theorem mx_info_int : (Try.prog.info? 3).map (fun i => (i.zero, i.size, i.bytes)) = some (some (.int .i64 0), 1, 8) := by kernel_rfl
def intCs (x : Int) : List Value := [.int .i64 x]
theorem intCs_snoc (l : List Int) (x : Int) : (l ++ [x]).flatMap intCs = l.flatMap intCs ++ [.int .i64 x] := by simp [intCs]
/-- A row of one's own, of numbers. -/
theorem own_intsAt {w : World} {base : Nat} {v : Value} {l : List Int} (h : w.ownsRow base 3 1 v l.length (l.flatMap intCs)) : ∃ ao cap, v = .slice ao l.length cap ∧ IntsAt w ao l := by
  obtain ⟨ao, cap, hv, _, hr, _⟩ := own_rows (cs := intCs) (K := 1) (fun _ => rfl) h
  exact ⟨ao, cap, hv, hr.nil, hr.spot, fun a ha i hi => by
    have q := hr.cells a ha i hi 0 _ rfl
    rw [nthI_at hi]; simpa using q⟩
theorem rowF_ints {w : World} {g n : Nat} {F : Nat → Int} {l : List Int} (r : RowF w g n F) (hn : l.length = n) (h : ∀ j, j < n → F j = nthI l j) : IntsAt w (some ⟨g, 0, none⟩) l :=
  ⟨fun e => (by cases e), fun a ha _ => (by cases ha; rfl), fun a ha i hi => by
    cases ha
    have q := r.cell (k := i) (by omega)
    rw [h i (by omega)] at q
    simpa using q⟩

theorem cell_one_new' (w : World) (u : Value) (t : TypeId) : ∀ j v, [u][j]? = some v → (w.alloc (.cells #[u] t)).cell? ((⟨w.heap.size, 0, none⟩ : Addr).add j) = some v := by
  intro j v hv
  rw [madd_off]
  exact (cell_of_row _ _ (0 + j) _ _ (0, 0) (heap_alloc_new w (.cells #[u] t))).trans (by simpa using hv)

theorem sizeOf_is (x : BestV) (w : World) : Calls Try.prog 63 #[.agg #[.int .i64 x.sz, .int .i64 x.b.sum, .int .i64 x.b.at_, .bool x.b.found]] w fun e w' => e = .returned (.int .i64 x.sz) ∧ ∃ q os, w' = Go.Sort.grow (w.drewN q) os := by
  go_enter Try.func63, Try.ntmps63
  go_wp2
  go_ret
  exact ⟨rfl, ⟨0, _, Go.Sort.alloc_eq_grow _ _⟩⟩
theorem grown_gd (w : World) (q : Nat) (os : Array Obj) : w.grownBy (Go.Sort.grow (w.drewN q) os) none :=
  ⟨rfl, rfl, rfl, by simp [Go.Sort.grow], fun k hk _ => Go.Sort.heap_grow_old _ _ (by simpa using hk)⟩

set_option maxRecDepth 100000 in
set_option maxHeartbeats 1600000 in
theorem sizesOf_is (ao : Option Addr) (cap : Nat) (L : List BestV) (hl : (L.length : Int) ≤ 4398046511104) (w : World) (hs : RowsAt bestCs 4 w ao L) :
    Calls Try.prog 68 #[.slice ao L.length cap] w fun e w' => (∃ a c, e = .returned (.slice a L.length c) ∧ IntsAt w' a (szs L)) ∧ w.grownBy w' none := by
  have HS := Lib.hid hs
  clear hs
  have hmk := run_make_row' (P := Try.prog) 22 3 (.int .i64 0) 8 Try.underlying22 einfo_int rfl .i64 .i64 L.length (by omega) (by omega)
  go_enter Try.func68, Try.ntmps68
  go_wp2_with fail
  go_loopw [11] (fun iv wr => ∃ (k : Nat) (F : Nat → Int), k ≤ L.length ∧ iv = .int .i64 k ∧ Hid (RowF wr w.heap.size L.length F) ∧ Hid (w.grownBy wr none) ∧ Hid (∀ j, j < k → F j = nthI (szs L) j))
    (fun iv _ => L.length - (intOf iv).toNat)
  case atStart =>
    refine ⟨0, fun _ => 0, Nat.zero_le _, rfl, ⟨?_⟩, World.grownBy_alloc _ _ _, fun j hj => absurd hj (Nat.not_lt_zero _)⟩
    rw [← rowI_zero]; exact heap_alloc_new _ _
  case round =>
    obtain ⟨k, F, hk, rfl, hr, hg, hf⟩ := hrel
    by_cases hlt : k < L.length
    · obtain ⟨g, o, rfl, hc⟩ := bst_at HS.out (by omega)
      obtain ⟨c0, c1, c2, c3⟩ := hc k hlt
      replace c0 := grown_cell hg.out c0; replace c1 := grown_cell hg.out c1; replace c2 := grown_cell hg.out c2; replace c3 := grown_cell hg.out c3
      have HZ : Hid (L[k].sz = nthI (szs L) k) := (szs_at hlt).symm
      generalize L[k] = x at *
      obtain ⟨sz, b⟩ := x
      obtain ⟨bs, ba, bf⟩ := b
      simp only at c0 c1 c2 c3 HZ
      go_wp2_with fail
      refine (sizeOf_is ⟨sz, ⟨bs, ba, bf⟩⟩ _).mono ?_
      rintro e w1 ⟨rfl, q, os, rfl⟩
      obtain ⟨W, hW⟩ : ∃ W, Go.Sort.grow (World.drewN (wr.alloc (.cells #[.int .i64 sz, .int .i64 bs, .int .i64 ba, .bool bf] 24)) q) os = W := ⟨_, rfl⟩
      have hgW : wr.grownBy W none := by rw [← hW]; exact grown_trans (World.grownBy_alloc _ _ _) (grown_gd _ _ _)
      have hr1 := hr.out.grown hgW
      have cr := hr1.cell hlt
      have fr := hr1.free k
      have HR1 : Hid (RowF (W.setCell ⟨w.heap.size, k, none⟩ (.int .i64 sz)) w.heap.size L.length (upI F k sz)) := hr1.set k sz
      have HG1 : Hid (w.grownBy (W.setCell ⟨w.heap.size, k, none⟩ (.int .i64 sz)) none) := mgrown_set (grown_trans hg.out hgW) (Nat.le_refl _) _ _
      have HF1 : Hid (∀ j, j < k + 1 → upI F k sz j = nthI (szs L) j) := fun j hj => by
        unfold upI
        split
        · rename_i e; subst e; exact HZ.out
        · exact hf.out j (by omega)
      rw [hW]
      clear hr hg hf hc c0 c1 c2 c3 hW hgW hr1 hmk
      go_wp2_with fail
      go_roundw
      case rel => exact ⟨k + 1, _, by omega, by go_num, HR1.out, HG1.out, HF1.out⟩
      case measure => simp [intOf]; omega
    · obtain rfl : k = L.length := by omega
      go_wp2_with fail
      go_ret
      exact ⟨⟨_, _, rfl, rowF_ints hr.out (szs_len L) hf.out⟩, hg.out⟩

set_option maxRecDepth 100000 in
set_option maxHeartbeats 1600000 in
theorem rsizesOf_is (ao : Option Addr) (cap : Nat) (L : List BestV) (hl : (L.length : Int) ≤ 4398046511104) (w : World) (hs : RowsAt bestCs 4 w ao L) :
    Calls Try.prog 70 #[.slice ao L.length cap] w fun e w' => (∃ a c, e = .returned (.slice a L.length c) ∧ IntsAt w' a (szs L)) ∧ w.grownBy w' none := by
  have HS := Lib.hid hs
  obtain ⟨j0, ji, jz0, jz1, jz2⟩ := info_parts mx_info_int
  clear hs
  go_enter Try.func70, Try.ntmps70
  go_wp2_with fail
  go_loopw [3, 8] (fun ov iv wr => ∃ (k : Nat) (v : Value), k ≤ L.length ∧ v = ov ∧ iv = .int .i64 k ∧ Hid (w.grownBy wr none) ∧ Hid (wr.ownsRow w.heap.size 3 1 v k (((szs L).take k).flatMap intCs)))
    (fun _ iv _ => L.length - (intOf iv).toNat)
  case atStart => exact ⟨0, _, Nat.zero_le _, rfl, rfl, grown_refl _ _, World.ownsRow_nil _ _ _ _⟩
  case round =>
    obtain ⟨k, v, hk, rfl, rfl, hg, hown⟩ := hrel
    by_cases hlt : k < L.length
    · obtain ⟨g, o, rfl, hc⟩ := bst_at HS.out (by omega)
      obtain ⟨c0, c1, c2, c3⟩ := hc k hlt
      replace c0 := grown_cell hg.out c0; replace c1 := grown_cell hg.out c1; replace c2 := grown_cell hg.out c2; replace c3 := grown_cell hg.out c3
      have HZ : Hid ((szs L).take (k + 1) = (szs L).take k ++ [L[k].sz]) := by
        show _ = _
        rw [List.take_succ_eq_append_getElem (by rw [szs_len]; exact hlt)]; simp [szs]
      generalize L[k] = x at *
      obtain ⟨sz, b⟩ := x
      obtain ⟨bs, ba, bf⟩ := b
      simp only at c0 c1 c2 c3 HZ
      have HSN : Hid (((szs L).take (k + 1)).flatMap intCs = ((szs L).take k).flatMap intCs ++ [.int .i64 sz]) := by
        show _ = _; rw [HZ.out, intCs_snoc]
      have HOWN := Lib.hid hown.out
      generalize hR1 : ((szs L).take (k + 1)).flatMap intCs = R1 at *
      have HR1 := Lib.hid hR1
      clear hR1 hown HZ
      generalize ((szs L).take k).flatMap intCs = R0 at *
      have SZ := hg.out.size
      go_wp2_with (at_builtin; refine wpList_append_own _ rfl _ _ 22 rfl w.heap.size 3 j0 (.int .i64 0) 1 8 Try.underlying22 ji jz0 jz1 jz2 rfl (by decide) _ _ _ rfl ((HOWN.out.alloc _).alloc _) ⟨wr.heap.size + 1, 0, none⟩ 1 1 [.int .i64 sz] rfl rfl (by have q := cell_one_new' (wr.alloc (.cells #[.int .i64 sz, .int .i64 bs, .int .i64 ba, .bool bf] 24)) (.int .i64 sz) 3; simpa using q) (by intro u hu; simp at hu; subst hu; rfl) (by unfold maxLen; omega) (by omega) (by simp; omega) ?_; intro v' w3 hown' hgrow' _)
      have hlt2 := HOWN.out.lt
      have GN : Hid (w.grownBy w3 none) := fgrown_own (grown_trans hg.out (World.grownBy_alloc _ _ _)) hgrow' (fun g e => (hlt2 g e).1)
      have HO2 : Hid (w3.ownsRow w.heap.size 3 1 v' (k + 1) R1) := by
        show World.ownsRow _ _ _ _ _ _ _; rw [HSN.out]; exact hown'
      clear hown' hgrow' hlt2 SZ hg HOWN c0 c1 c2 c3 hc
      go_wp2_with fail
      go_roundw
      case rel => exact ⟨k + 1, _, by omega, rfl, by go_num, GN.out, (by show World.ownsRow _ _ _ _ _ _ _; rw [HR1.out]; exact HO2.out)⟩
      case measure => simp [intOf]; omega
    · obtain rfl : k = L.length := by omega
      have HOF : Hid (wr.ownsRow w.heap.size 3 1 v (szs L).length ((szs L).flatMap intCs)) := by
        have q := hown.out
        rw [List.take_of_length_le (by rw [szs_len]; exact Nat.le_refl _)] at q
        show World.ownsRow _ _ _ _ _ _ _
        rw [szs_len]; exact q
      clear hown
      go_wp2_with fail
      go_ret
      obtain ⟨a, c, hv, hi⟩ := own_intsAt HOF.out
      exact ⟨⟨a, c, by rw [hv, szs_len]; rfl, hi⟩, hg.out⟩

end Go.Proofs.Ytfeefijaahjheaa
