/- The contracts of gaps and of common. -/
import Derived.Test.YtbacoopopokkfaaDoorQSetC
namespace Go.Proofs.YtbacoopopokkfaaDoor
open Go.RowKit Go.Shelf
set_option linter.unusedSimpArgs false
set_option linter.unusedVariables false

theorem gap_nil (f : Int) : gapL f [] = if f ≤ 1000000000000 then [⟨f, 1000000000000⟩] else [] := rfl
theorem gap_cons (f : Int) (x : SpV) (l : List SpV) : gapL f (x :: l) = (if f < x.fr then [⟨f, x.fr - 1⟩] else []) ++ gapL (x.to_ + 1) l := rfl
theorem grown_anyS {w wt w2 : World} {r : Option Nat} (h : w.grownBy wt none) (g : wt.grownBy w2 r) (hr : ∀ k, r = some k → w.heap.size ≤ k) : w.grownBy w2 none :=
  ⟨g.os.trans h.os, g.tape.trans h.tape, g.output.trans h.output, Nat.le_trans h.size g.size, fun i hi _ => (g.block i (by have := h.size; omega) (fun e => by have := hr i e.symm; omega)).trans (h.block i hi (by simp))⟩
theorem two_new (w : World) (o1 o2 : Obj) : ((w.alloc o1).alloc o2).heap[w.heap.size + 1]? = some o2 := by have := mheap_new (w.alloc o1) o2; simpa using this
/-- A row of spans of one's own. -/
def SpOwn (b : Nat) (w : World) (v : Value) (L : List SpV) : Prop := w.ownsRow b 37 2 v L.length (L.flatMap spCs)
theorem SpOwn.nil (b : Nat) (w : World) : SpOwn b w (.slice none 0 0) [] := World.ownsRow_nil _ _ _ _
theorem SpOwn.more {b : Nat} {w : World} {v : Value} {L : List SpV} {f t : Int} (h : w.ownsRow b 37 2 v (L.length + 1) (L.flatMap spCs ++ [.int .i64 f, .int .i64 t])) : SpOwn b w v (L ++ [⟨f, t⟩]) := by
  unfold SpOwn
  rw [List.length_append, mflat_snoc]; exact h
theorem SpOwn.lt {b : Nat} {w : World} {v : Value} {L : List SpV} (h : SpOwn b w v L) : ∀ k, v.ownBlock = some k → b ≤ k ∧ k < w.heap.size := World.ownsRow.lt (h : World.ownsRow _ _ _ _ _ _ _)
theorem SpOwn.keep {b : Nat} {w w' : World} {v : Value} {L : List SpV} (h : SpOwn b w v L) (g : w.grownBy w' none) : SpOwn b w' v L := keptR h g
theorem SpOwn.rows {b : Nat} {w : World} {v : Value} {L : List SpV} (h : SpOwn b w v L) : ∃ ao cap, v = .slice ao L.length cap ∧ RowsAt spCs 2 w ao L := by
  obtain ⟨p, q, e, _, r, _⟩ := own_rows spCs_len h
  exact ⟨p, q, e, r⟩
theorem SpOwn.low {b b2 : Nat} {w : World} {v : Value} {L : List SpV} (h : SpOwn b w v L) (hb : b2 ≤ b) : SpOwn b2 w v L := own_baseR h hb

set_option maxRecDepth 100000 in
set_option maxHeartbeats 1600000 in
theorem gaps_is (ao : Option Addr) (cap : Nat) (L : List SpV) (hl : L.length ≤ 1000) (w : World) (hs : RowsAt spCs 2 w ao L) (hb : InB L) :
    Calls Tryd.prog 26 #[.slice ao L.length cap] w fun x w' => (∃ v, x = .returned v ∧ SpOwn w.heap.size w' v (gapL 0 L)) ∧ w.grownBy w' none := by
  obtain ⟨i0, hi, hz0, hz1, hz2⟩ := info_parts zero_sp
  have HI0 := Lib.hid hi; have HZ0 := Lib.hid hz0; have HZ1 := Lib.hid hz1; have HZ2 := Lib.hid hz2
  have HS := Lib.hid hs; have HB := Lib.hid hb
  clear hi hz0 hz1 hz2 hs hb
  go_enter Tryd.func26, Tryd.ntmps26
  go_wp2_with fail
  go_loopw [3, 4, 9] (fun sv fv iv wr => (∃ (k : Nat) (f : Int) (acc : List SpV) (v : Value), k ≤ L.length ∧ iv = .int .i64 k ∧ fv = .int .i64 f ∧ v = sv ∧ Hid (0 ≤ f ∧ f ≤ 1000000000001) ∧ Hid (acc.length ≤ k) ∧ Hid (acc ++ gapL f (L.drop k) = gapL 0 L) ∧ Hid (SpOwn w.heap.size wr v acc)) ∧ Hid (w.grownBy wr none)) (fun _ _ iv _ => L.length - (intOf iv).toNat)
  case atStart => exact ⟨⟨0, 0, [], _, Nat.zero_le _, rfl, rfl, rfl, ⟨by omega, by omega⟩, Nat.le_refl _, (by rw [List.drop_zero]; rfl), SpOwn.nil _ _⟩, World.grownBy.refl _ _⟩
  case round =>
    obtain ⟨⟨k, f, acc, v, hk, rfl, rfl, rfl, hf, hal, hd, ho⟩, hg⟩ := hrel
    have HSZ := Lib.hid hg.out.size
    by_cases hlt : k < L.length
    · obtain ⟨b1, o1, rfl, q1⟩ := sp_at (HS.out.grown hg.out) (by omega)
      obtain ⟨x0, x1⟩ := q1 k hlt
      have hx := HB.out _ (List.getElem_mem hlt)
      have hdd := hd.out
      rw [List.drop_eq_getElem_cons hlt, gap_cons] at hdd
      generalize L[k] = x at *
      obtain ⟨xf, xt⟩ := x
      simp only at x0 x1 hx hdd
      have HG := Lib.hid (grown_trans hg.out (World.grownBy_alloc wr (.cells #[.int .i64 xf, .int .i64 xt] 37) none))
      have HO := Lib.hid (ho.out.keep (World.grownBy_alloc wr (.cells #[.int .i64 xf, .int .i64 xt] 37) none))
      have HL := Lib.hid ho.out.lt
      have z1 : Hid ((wr.alloc (.cells #[.int .i64 xf, .int .i64 xt] 37)).cell? ⟨wr.heap.size, 1, none⟩ = some (.int .i64 xt)) := mblock_cell (mheap_new _ _) 1 _ rfl
      clear q1 hd ho hg
      by_cases hc : f < xf
      · rw [if_pos hc] at hdd
        have HD := Lib.hid hdd
        have HX := Lib.hid hx; have HF := Lib.hid hf.out; have HAL := Lib.hid hal.out
        have rw1 : IntKind.i64.wrap (xf - 1) = xf - 1 := IntWalk.i64_in _ (by omega)
        have hi := HI0.out; have hz0 := HZ0.out; have hz1 := HZ1.out; have hz2 := HZ2.out
        have hacc : acc.length ≤ 1000 := by have := HAL.out; omega
        clear hdd hf hal
        have rw2 : IntKind.i64.wrap (xt + 1) = xt + 1 := IntWalk.i64_in _ (by omega)
        go_wp2_with (at_builtin; refine wpList_append_own _ rfl _ _ 22 rfl w.heap.size 37 i0 (.agg #[.int .i64 0, .int .i64 0]) 2 16 Tryd.underlying22 hi hz0 hz1 hz2 rfl (by decide) _ acc.length _ rfl (HO.out.alloc _) ⟨wr.heap.size + 1, 0, none⟩ 1 1 [.int .i64 (f), .int .i64 (xf - 1)] rfl rfl (World.news_of_block (cs := #[.int .i64 (f), .int .i64 (xf - 1)]) (t := 37) (fr := (0, 0)) (two_new wr _ _)) (by simp [Value.oneCell']) (by unfold maxLen; omega) (by omega) (by have := HSZ.out; simp; omega) ?_; intro v' w3 hown' hgrow' _; have HN := Lib.hid (SpOwn.more hown'); have HN2 := Lib.hid (grown_anyS (grown_trans HG.out (World.grownBy_alloc _ _ none)) hgrow' (fun r e => (HL.out r e).1)); have z2 : w3.cell? ⟨wr.heap.size, 1, none⟩ = some (.int .i64 xt) := (World.cell?_of_block (a := ⟨wr.heap.size, 1, none⟩) ((hgrow'.block wr.heap.size (by simp; omega) (fun e => by have := (HL.out _ e.symm).2; omega)).trans (Below.heap_alloc _ _ _ (by simp)))).trans z1.out; clear hown' hgrow' hi hz0 hz1 hz2)
        go_roundw
        case rel => exact ⟨⟨k + 1, xt + 1, _, v', by omega, by go_num, rfl, rfl, ⟨by omega, by omega⟩, (by have := HAL.out; show _ ≤ _; simp; omega), (by show _ = _; rw [List.append_assoc]; exact HD.out), HN.out⟩, HN2.out⟩
        case measure => simp [intOf]; omega
      · rw [if_neg hc] at hdd
        have HD := Lib.hid hdd
        have z2 := z1.out
        clear hdd
        go_wp2_with fail
        go_roundw
        case rel => exact ⟨⟨k + 1, xt + 1, acc, v, by omega, by go_num, rfl, rfl, ⟨by omega, by omega⟩, (by have := hal.out; show _ ≤ _; omega), HD.out, HO.out⟩, HG.out⟩
        case measure => simp [intOf]; omega
    · have hdd := hd.out
      rw [List.drop_eq_nil_of_le (by omega), gap_nil] at hdd
      by_cases hc : f ≤ 1000000000000
      · rw [if_pos hc] at hdd
        have HD := Lib.hid hdd
        have hi := HI0.out; have hz0 := HZ0.out; have hz1 := HZ1.out; have hz2 := HZ2.out
        have hacc : acc.length ≤ 1000 := by have := hal.out; omega
        have HL := Lib.hid ho.out.lt
        clear hdd hd
        go_wp2_with (at_builtin; refine wpList_append_own _ rfl _ _ 22 rfl w.heap.size 37 i0 (.agg #[.int .i64 0, .int .i64 0]) 2 16 Tryd.underlying22 hi hz0 hz1 hz2 rfl (by decide) _ acc.length _ rfl (ho.out.alloc _) ⟨wr.heap.size, 0, none⟩ 1 1 [.int .i64 (f), .int .i64 (1000000000000)] rfl rfl (World.news_of_block (cs := #[.int .i64 (f), .int .i64 (1000000000000)]) (t := 37) (fr := (0, 0)) (mheap_new wr _)) (by simp [Value.oneCell']) (by unfold maxLen; omega) (by omega) (by have := HSZ.out; simp; omega) ?_; intro v' w3 hown' hgrow' _; have HN := Lib.hid (SpOwn.more hown'); have HN2 := Lib.hid (grown_anyS (grown_trans hg.out (World.grownBy_alloc _ _ none)) hgrow' (fun r e => (HL.out r e).1)); clear hown' hgrow' hi hz0 hz1 hz2)
        go_ret
        exact ⟨⟨v', rfl, by rw [← HD.out]; exact HN.out⟩, HN2.out⟩
      · rw [if_neg hc, List.append_nil] at hdd
        have HD := Lib.hid hdd
        clear hdd hd
        go_wp2_with fail
        go_ret
        exact ⟨⟨v, rfl, by rw [← HD.out]; exact ho.out⟩, hg.out⟩
end Go.Proofs.YtbacoopopokkfaaDoor
