/- The contracts of a book's days and loads, the program's. -/
import Derived.Test.YteaifonpkdjkcaaFBookM
import Derived.BigQuiet
import Derived.Deep.AppendLies
namespace Go.Proofs.Yteaifonpkdjkcaa
open Go.RowKit Go.Maps
set_option linter.unusedSimpArgs false
set_option linter.unusedVariables false

section
variable {w : World} {B g : Nat} {first f0 g0 : Int} {L : List Int} {ao : Option Addr} {cap : Nat}
set_option maxHeartbeats 1600000 in
theorem has_is (h : PBk w B g first f0 g0 L ao cap) (hf : 0 ≤ first ∧ first ≤ 999999) (day : Int) :
    Calls Try.prog 132 #[.pointer (some ⟨g, 0, none⟩), .int .i64 day] w fun e w' => e = .returned (.bool (decide (HasD first day))) ∧ w.grownBy w' none := by
  obtain ⟨M, hM⟩ : ∃ m, min (first + 4999) 999999 = m := ⟨_, rfl⟩
  have c0 := blk_cell h.b 0 _ rfl
  have r1 : IntKind.i64.wrap (first + 5000) = first + 5000 := IntWalk.i64_in _ (by omega)
  have r2 : IntKind.i64.wrap (first + 5000 - 1) = first + 4999 := by rw [IntWalk.i64_in _ (by omega)]; omega
  by_cases hh : HasD first day
  · have hw : first ≤ day ∧ day ≤ M := by unfold HasD at hh; rw [← hM]; exact hh
    have HW := Lib.hid hw; have HH := Lib.hid hh
    clear hw hh h hf
    go_enter Try.func132, Try.ntmps132
    go_wp2_with fail
    go_quiet (exact Calls.quiet_of_same ((fwithin_yes day first M HW.out _).mono fun _ _ q => ⟨q.1, q.2.symm⟩))
    go_wp2_with fail
    go_ret
    exact ⟨ret_bool (decide_eq_true HH.out).symm, grown_drewN _ _ _⟩
  · have hw : ¬ (first ≤ day ∧ day ≤ M) := by unfold HasD at hh; rw [← hM]; exact hh
    have HW := Lib.hid hw; have HH := Lib.hid hh
    clear hw hh h hf
    go_enter Try.func132, Try.ntmps132
    go_wp2_with fail
    go_quiet (exact Calls.quiet_of_same ((fwithin_no day first M HW.out _).mono fun _ _ q => ⟨q.1, q.2.symm⟩))
    go_wp2_with fail
    go_ret
    exact ⟨ret_bool (decide_eq_false HH.out).symm, grown_drewN _ _ _⟩

theorem addz (gr k : Nat) : (⟨gr, 0, none⟩ : Addr).add k = ⟨gr, k, none⟩ := by unfold Addr.add; split <;> simp_all
theorem own_int_cell {gr : Nat} (h : w.ownsRow B 3 1 (.slice (some ⟨gr, 0, none⟩) L.length cap) L.length (L.map (Value.int .i64))) {k : Nat} (hk : k < L.length) : w.cell? ⟨gr, k, none⟩ = some (.int .i64 L[k]) := by
  have := h.cells (g := gr) rfl k (.int .i64 L[k]) (by rw [List.getElem?_map, List.getElem?_eq_getElem hk]; rfl)
  have e : (⟨gr, 0, none⟩ : Addr).add k = ⟨gr, k, none⟩ := by unfold Addr.add; split <;> simp_all
  rw [e] at this; exact this

set_option maxHeartbeats 1600000 in
theorem load_is (h : PBk w B g first f0 g0 L ao cap) (hf : 0 ≤ first ∧ first ≤ 999999) (day : Int) (hd : -100000000 ≤ day ∧ day ≤ 100000000) {v : Int} (hv : Hid (ldA L (day - first) = v)) :
    Calls Try.prog 134 #[.pointer (some ⟨g, 0, none⟩), .int .i64 day] w fun e w' => e = .returned (.int .i64 v) ∧ w = w' := by
  obtain ⟨i, hi⟩ : ∃ i, day - first = i := ⟨_, rfl⟩
  have hv2 := hv.out
  rw [hi] at hv2
  have hlen := h.len
  have r1 : IntKind.i64.wrap (day - first) = i := by rw [hi]; exact IntWalk.i64_in _ (by omega)
  have r2 : IntKind.i64.wrap ((L.length : Int) - 1) = (L.length : Int) - 1 := IntWalk.i64_in _ (by omega)
  have c0 := blk_cell h.b 0 _ rfl
  have c3 := blk_cell h.b 3 _ rfl
  by_cases hh : 0 ≤ i ∧ i ≤ (L.length : Int) - 1
  · obtain ⟨k, rfl⟩ : ∃ k : Nat, i = (k : Int) := ⟨i.toNat, by omega⟩
    have hk : k < L.length := by omega
    obtain ⟨gr, cap', hv3, _, _⟩ := h.r.form (by omega)
    injection hv3 with e1 _ e3
    subst e1; subst e3
    have q := own_int_cell h.r hk
    rw [ldA_at hk] at hv2
    rw [hv2] at q
    have i0 : (0 : Int) ≤ (k : Int) := by omega
    have i1 : (k : Int) < (L.length : Int) := by omega
    have HW := Lib.hid hh; have HK := Lib.hid hk
    clear hv hv2 hh h hf hd hi hlen hk
    go_enter Try.func134, Try.ntmps134
    go_wp2_with (go_at_call 129; refine (fwithin_yes _ _ _ HW.out _).mono ?_; rintro e w1 ⟨rfl, rfl⟩)
    go_ret
    exact ⟨rfl, rfl⟩
  · have hz : v = 0 := by rw [← hv2]; exact ldA_out (by omega)
    have HW := Lib.hid hh; have HZ := Lib.hid hz
    clear hv hv2 hh h hf hd hi hlen hz
    go_enter Try.func134, Try.ntmps134
    go_wp2_with (go_at_call 129; refine (fwithin_no _ _ _ HW.out _).mono ?_; rintro e w1 ⟨rfl, rfl⟩)
    go_ret
    exact ⟨ret_int HZ.out.symm, rfl⟩

/-- The length of a slice in a cell. -/
def lenAt (g : Nat) (w : World) : Nat := match w.cell? ⟨g, 3, none⟩ with | some (.slice _ n _) => n | _ => 0
theorem lenAt_of {w : World} {n : Nat} {a : Option Addr} {c : Nat} (h : w.cell? ⟨g, 3, none⟩ = some (.slice a n c)) : lenAt g w = n := by unfold lenAt; rw [h]
theorem own_intset {gr n : Nat} {xs : List Value} (h : w.ownsRow B 3 1 (.slice (some ⟨gr, 0, none⟩) n cap) n xs) (k : Nat) (v : Value) : (w.setCell ⟨gr, k, none⟩ v).ownsRow B 3 1 (.slice (some ⟨gr, 0, none⟩) n cap) n (xs.set k v) := by
  rcases h.2 with ⟨hv, _⟩ | ⟨g', cap', cur, hv, hb, hg, h1, h2, h3, h4⟩
  · cases hv
  · injection hv with e1 e2 e3
    injection e1 with e1; injection e1 with e1 _ _
    subst e1; subst e3
    refine ⟨by rw [List.length_set]; exact h.1, .inr ⟨gr, cap, cur.setIfInBounds k v, rfl, hb, blk_set hg _, h1, h2, by rw [Array.size_setIfInBounds]; exact h3, ?_⟩⟩
    rw [Array.toList_setIfInBounds, List.take_set, h4]
theorem own_inthead {gr n : Nat} {xs : List Value} (h : w.ownsRow B 3 1 (.slice (some ⟨gr, 0, none⟩) n cap) n xs) : ∃ cur, w.heap[gr]? = some (.cells cur 3 (0, 0)) := by
  rcases h.2 with ⟨hv, _⟩ | ⟨g', cap', cur, hv, hb, hg, _⟩
  · cases hv
  · injection hv with e1 e2 e3
    injection e1 with e1; injection e1 with e1 _ _
    subst e1
    exact ⟨cur, hg⟩

set_option maxRecDepth 100000 in
set_option maxHeartbeats 3200000 in
theorem setLoad_is (h : PBk w B g first f0 g0 L ao cap) (hB : B ≤ w.heap.size) (hf : 0 ≤ first ∧ first ≤ 999999) (day n : Int) (hd : HasD first day) (hn : 0 ≤ n ∧ n ≤ 10000) :
    Calls Try.prog 135 #[.pointer (some ⟨g, 0, none⟩), .int .i64 day, .int .i64 n] w fun e w' => e = .returned (.tuple #[]) ∧ (∃ ao' cap', PBk w' B g first f0 g0 (setA L (day - first).toNat n) ao' cap') ∧ Trn B g w w' := by
  unfold HasD at hd
  obtain ⟨i, hi⟩ : ∃ i : Nat, day - first = (i : Int) := ⟨(day - first).toNat, by omega⟩
  have hi5 : i < 5000 := by omega
  have r1 : IntKind.i64.wrap (day - first) = (i : Int) := by rw [hi]; exact IntWalk.i64_in _ (by omega)
  have hit : (day - first).toNat = i := by omega
  rw [hit]
  obtain ⟨i0, hin, hz0, hz1, hz2⟩ := info_parts einfo_int
  have c0 := blk_cell h.b 0 _ rfl
  have HP := Lib.hid h; have HN := Lib.hid hn; have HBB := Lib.hid hB
  have HIN := Lib.hid hin; have HZ0 := Lib.hid hz0; have HZ1 := Lib.hid hz1; have HZ2 := Lib.hid hz2
  clear h hn hB hd hf hi hit hin hz0 hz1 hz2
  go_enter Try.func135, Try.ntmps135
  go_wp2_with fail
  go_loopw [] (fun wr => ∃ (j : Nat) (a : Option Addr) (c : Nat), Hid (L.length + j ≤ max L.length (i + 1)) ∧ Hid (wr.heap[g]? = some (.cells #[.int .i64 first, .int .i64 f0, .int .i64 g0, .slice a (L.length + j) c] 169 (0, 0))) ∧ Hid (wr.ownsRow B 3 1 (.slice a (L.length + j) c) (L.length + j) ((L ++ List.replicate j 0).map (Value.int .i64))) ∧ Hid (Trn B g w wr))
    (fun wr => i + 1 - lenAt g wr)
  case atStart => exact ⟨0, ao, cap, by show _ ≤ _; omega, HP.out.b, by have q := HP.out.r; show World.ownsRow _ _ _ _ _ _ _; simpa using q, Trn.refl⟩
  case round =>
    obtain ⟨j, a, c, hJ, hB, hO, hT⟩ := hrel
    have b3 := blk_cell hB.out 3 _ rfl
    have hlen : Hid (L.length ≤ 5000) := HP.out.len
    have HLA : Hid (lenAt g wr = L.length + j) := lenAt_of b3
    obtain ⟨m, hm⟩ : ∃ m, L.length + j = m := ⟨_, rfl⟩
    have HM := Lib.hid hm
    rw [hm] at b3 hB hO HLA hJ
    clear hm
    have hm5 : m ≤ 5000 := by have := hJ.out; have := hlen.out; omega
    by_cases hc : m ≤ i
    · have g1 : decide ((m : Int) ≤ (i : Int)) = true := decide_eq_true (by omega)
      have HC := Lib.hid hc
      clear hc
      have bf3 := blk_free (k := 3) hB.out
      go_wp2_with (at_builtin; go_loud (refine wpList_append_own _ rfl _ _ 22 rfl B 3 i0 (.int .i64 0) 1 8 Try.underlying22 HIN.out HZ0.out HZ1.out HZ2.out rfl (by decide) _ _ _ rfl (hO.out.alloc _) ⟨wr.heap.size, 0, none⟩ 1 1 [.int .i64 0] rfl rfl (World.news_of_block (cs := #[.int .i64 0]) (t := 3) (fr := (0, 0)) (heap_alloc_new wr _)) (by simp [Value.oneCell']) (by unfold maxLen; omega) (by omega) (by have := HBB.out; have := hT.out.size; exact Nat.le_trans (by omega : B ≤ wr.heap.size) (World.grownBy_alloc wr _ none).size) ?_); intro v' w10 ho10 hg10 hnil; obtain ⟨gg, cap2, rfl, hgb, _⟩ := ho10.form (by omega); have gA := World.grownBy_alloc wr (.cells #[.int .i64 0] 3) none; have B3 := Lib.hid (blk_at (blk_at hB.out gA (by simp)) hg10 (fun e => own_blk_neF (hO.out.alloc _) (blk_at hB.out gA (by simp)) (by decide) g e.symm rfl)); have O3 := Lib.hid ho10; have T3 := Lib.hid ((hT.out.trans (Trn.of_grown gA)).trans (Trn.of_row (hO.out.alloc _) hg10)); have k3 := blk_cell B3.out 3 _ rfl; have kf3 := blk_free (k := 3) B3.out; clear ho10 hg10 hnil gA b3 bf3)
      have HNG : Hid (∀ r, (Value.slice (some ⟨gg, 0, none⟩) (m + 1) cap2).ownBlock = some r → r ≠ g) := own_blk_neF O3.out B3.out (by decide)
      have B4 : Hid ((w10.setCell ⟨g, 3, none⟩ (.slice (some ⟨gg, 0, none⟩) (m + 1) cap2)).heap[g]? = some (.cells #[.int .i64 first, .int .i64 f0, .int .i64 g0, .slice (some ⟨gg, 0, none⟩) (m + 1) cap2] 169 (0, 0))) := blk_set B3.out _
      have O4 := Lib.hid (own_outF O3.out HNG.out 3 (.slice (some ⟨gg, 0, none⟩) (m + 1) cap2))
      have T4 := Lib.hid (T3.out.trans (Trn.of_set (B := B) (g := g) (i := 3) (v := .slice (some ⟨gg, 0, none⟩) (m + 1) cap2) HP.out.ge))
      have EM : Hid (L.length + (j + 1) = m + 1) := by have := HM.out; show _ = _; omega
      have B5 : Hid ((w10.setCell ⟨g, 3, none⟩ (.slice (some ⟨gg, 0, none⟩) (m + 1) cap2)).heap[g]? = some (.cells #[.int .i64 first, .int .i64 f0, .int .i64 g0, .slice (some ⟨gg, 0, none⟩) (L.length + (j + 1)) cap2] 169 (0, 0))) := by show _ = _; rw [EM.out]; exact B4.out
      have O5 : Hid ((w10.setCell ⟨g, 3, none⟩ (.slice (some ⟨gg, 0, none⟩) (m + 1) cap2)).ownsRow B 3 1 (.slice (some ⟨gg, 0, none⟩) (L.length + (j + 1)) cap2) (L.length + (j + 1)) ((L ++ List.replicate (j + 1) 0).map (Value.int .i64))) := by
        show World.ownsRow _ _ _ _ _ _ _
        rw [EM.out, List.replicate_succ', ← List.append_assoc, List.map_append]; exact O4.out
      have EJ : Hid (L.length + (j + 1) ≤ max L.length (i + 1)) := by show _ ≤ _; have := HM.out; have := HC.out; omega
      go_roundw
      case rel => exact ⟨j + 1, some ⟨gg, 0, none⟩, cap2, EJ, B5, O5, T4⟩
      case measure =>
        have q := lenAt_of (blk_cell B4.out 3 _ rfl)
        rw [q, HLA.out]
        have := HC.out
        omega
    · have g1 : decide ((m : Int) ≤ (i : Int)) = false := decide_eq_false (by omega)
      have hfin : Hid (m = L.length + (i + 1 - L.length) ∧ j = i + 1 - L.length) := by have := hJ.out; have := HM.out; show _ ∧ _; omega
      obtain ⟨gr, cap', hv3, _, _⟩ := hO.out.form (by omega)
      injection hv3 with e1 e2 e3
      subst e1; subst e3
      clear e2
      obtain ⟨cur, hcur⟩ := own_inthead hO.out
      have ff0 := blk_free (k := i) hcur
      have ii0 : (0 : Int) ≤ (i : Int) := by omega
      have ii1 : (i : Int) < (m : Int) := by omega
      have ii2 : i < m := by omega
      have HI2 := Lib.hid ii2
      obtain ⟨u, hu⟩ : ∃ u, ((L ++ List.replicate j 0).map (Value.int .i64))[i]? = some u := ⟨_, List.getElem?_eq_getElem (by have := HM.out; simp; omega)⟩
      have ci := hO.out.cells (g := gr) rfl i u hu
      rw [addz] at ci
      have HNG : Hid (g ≠ gr) := fun e => by
        subst e
        have q := hB.out
        rw [hcur] at q
        injection q with q; injection q with _ q _
        exact absurd q (by decide)
      have B4 : Hid ((wr.setCell ⟨gr, i, none⟩ (.int .i64 n)).heap[g]? = some (.cells #[.int .i64 first, .int .i64 f0, .int .i64 g0, .slice (some ⟨gr, 0, none⟩) m c] 169 (0, 0))) := by
        show _ = _; rw [Below.heap_setCell _ _ _ _ (by exact HNG.out)]; exact hB.out
      have O4 := Lib.hid (own_intset hO.out i (.int .i64 n))
      have T4 : Hid (Trn B g w (wr.setCell ⟨gr, i, none⟩ (.int .i64 n))) := hT.out.trans (Trn.of_row hO.out (w1 := wr.setCell ⟨gr, i, none⟩ (.int .i64 n)) ⟨rfl, rfl, rfl, by simp [World.setCell], fun k hk hne => Below.heap_setCell _ _ _ _ (fun e => hne (by rw [e]; rfl))⟩)
      clear hc hcur hu
      go_wp2_with fail
      refine bodyPost_end (results_none rfl _ _ _) rfl ?_
      refine ⟨rfl, ⟨some ⟨gr, 0, none⟩, c, ?_, ?_, HP.out.ge, setA_bd HP.out.bd i HN.out, ?_⟩, T4.out⟩
      · rw [setA_len, ← hfin.out.1]; exact B4.out
      · rw [setA_len, ← hfin.out.1]
        have q := O4.out
        rw [hfin.out.2, ← List.map_set] at q
        exact q
      · rw [setA_len, ← hfin.out.1]; exact hm5
end
end Go.Proofs.Yteaifonpkdjkcaa
