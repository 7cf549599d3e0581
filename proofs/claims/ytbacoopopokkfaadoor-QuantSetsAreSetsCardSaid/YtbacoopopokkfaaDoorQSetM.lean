/- The contract of common. -/
import Derived.Test.YtbacoopopokkfaaDoorQSetG
import Derived.BigRegion
import Derived.BigQuiet
namespace Go.Proofs.YtbacoopopokkfaaDoor
open Go.RowKit Go.Shelf
set_option linter.unusedSimpArgs false
set_option linter.unusedVariables false

theorem com_cons (x y : SpV) (a b : List SpV) : comL (x :: a) (y :: b) = (if max x.fr y.fr ≤ min x.to_ y.to_ then [⟨max x.fr y.fr, min x.to_ y.to_⟩] else []) ++ (if x.to_ < y.to_ then comL a (y :: b) else comL (x :: a) b) := by rw [comL]

theorem com_nil2 (b : List SpV) : comL [] b = [] := by rw [comL]

set_option maxRecDepth 100000 in
set_option maxHeartbeats 3200000 in
theorem common_is (ao bo : Option Addr) (ac bc : Nat) (A B : List SpV) (hla : A.length ≤ 1001) (hlb : B.length ≤ 1001) (w : World) (ha : RowsAt spCs 2 w ao A) (hb : RowsAt spCs 2 w bo B) :
    Calls Tryd.prog 24 #[.slice ao A.length ac, .slice bo B.length bc] w fun x w' => (∃ v, x = .returned v ∧ SpOwn w.heap.size w' v (comL A B)) ∧ w.grownBy w' none := by
  obtain ⟨i0, hi, hz0, hz1, hz2⟩ := info_parts zero_sp
  have HI0 := Lib.hid hi; have HZ0 := Lib.hid hz0; have HZ1 := Lib.hid hz1; have HZ2 := Lib.hid hz2
  have HA := Lib.hid ha; have HB := Lib.hid hb
  clear hi hz0 hz1 hz2 ha hb
  go_enter Tryd.func24, Tryd.ntmps24
  go_wp2_with fail
  go_loopw [5, 6, 7] (fun sv iv jv wr => (∃ (i j : Nat) (acc : List SpV) (v : Value), i ≤ A.length ∧ j ≤ B.length ∧ iv = .int .i64 i ∧ jv = .int .i64 j ∧ v = sv ∧ Hid (acc.length ≤ i + j) ∧ Hid (acc ++ comL (A.drop i) (B.drop j) = comL A B) ∧ Hid (SpOwn w.heap.size wr v acc)) ∧ Hid (w.grownBy wr none)) (fun _ iv jv _ => A.length + B.length - (intOf iv).toNat - (intOf jv).toNat)
  case atStart => exact ⟨⟨0, 0, [], _, Nat.zero_le _, Nat.zero_le _, rfl, rfl, rfl, Nat.le_refl _, (by rw [List.drop_zero, List.drop_zero]; rfl), SpOwn.nil _ _⟩, World.grownBy.refl _ _⟩
  case round =>
    obtain ⟨⟨i, j, acc, v, hi, hj, rfl, rfl, rfl, hal, hd, ho⟩, hg⟩ := hrel
    have HSZ := Lib.hid hg.out.size
    by_cases hli : i < A.length
    · by_cases hlj : j < B.length
      · obtain ⟨ga, oa, rfl, qa⟩ := sp_at HA.out (by omega)
        obtain ⟨gb, ob, rfl, qb⟩ := sp_at HB.out (by omega)
        obtain ⟨x0, x1⟩ := qa i hli
        obtain ⟨y0, y1⟩ := qb j hlj
        have LA : Hid (ga < w.heap.size) := World.block_lt_of_cell? w _ x0
        have LB : Hid (gb < w.heap.size) := World.block_lt_of_cell? w _ y0
        replace x0 := hg.out.cell x0 (by simp); replace x1 := hg.out.cell x1 (by simp); replace y0 := hg.out.cell y0 (by simp); replace y1 := hg.out.cell y1 (by simp)
        have hdd := hd.out
        have DA := Lib.hid (List.drop_eq_getElem_cons hli); have DB := Lib.hid (List.drop_eq_getElem_cons hlj)
        rw [DA.out, DB.out, com_cons] at hdd
        rw [← DA.out, ← DB.out] at hdd
        generalize A[i] = x at *
        generalize B[j] = y at *
        obtain ⟨xf, xt⟩ := x
        obtain ⟨yf, yt⟩ := y
        simp only at x0 x1 y0 y1 hdd
        have HDD := Lib.hid hdd
        clear qa qb hd hdd
        have gz := World.grownBy_alloc wr (.cells #[.int .i64 0, .int .i64 0] 37) none
        have u0 := gz.cell x0 (by simp); have u1 := gz.cell x1 (by simp); have u2 := gz.cell y0 (by simp); have u3 := gz.cell y1 (by simp)
        clear gz
        go_wp2_with fail
        go_region
        obtain ⟨mx, hmx⟩ : ∃ m, max xf yf = m := ⟨_, rfl⟩
        obtain ⟨mn, hmn⟩ : ∃ m, min xt yt = m := ⟨_, rfl⟩
        rw [hmx, hmn] at HDD ⊢
        have GA := World.grownBy_alloc wr (.cells #[.int .i64 mx, .int .i64 mn] 37) none
        have G1 : Hid (wr.grownBy (wr.alloc (.cells #[.int .i64 mx, .int .i64 mn] 37)).drew none) := grown_trans GA (grown_drewN _ none 1)
        have z0 : (wr.alloc (.cells #[.int .i64 mx, .int .i64 mn] 37)).drew.cell? ⟨wr.heap.size, 0, none⟩ = some (.int .i64 mx) := mblock_cell (c := #[.int .i64 mx, .int .i64 mn]) (mheap_new wr _) 0 _ rfl
        have z1 : (wr.alloc (.cells #[.int .i64 mx, .int .i64 mn] 37)).drew.cell? ⟨wr.heap.size, 1, none⟩ = some (.int .i64 mn) := mblock_cell (c := #[.int .i64 mx, .int .i64 mn]) (mheap_new wr _) 1 _ rfl
        have hs1 : Hid (wr.heap.size < (wr.alloc (.cells #[.int .i64 mx, .int .i64 mn] 37)).drew.heap.size) := by show _ < _; simp
        generalize (wr.alloc (.cells #[.int .i64 mx, .int .i64 mn] 37)).drew = W1 at *
        have HG1 := Lib.hid (grown_trans hg.out G1.out)
        have HO1 := Lib.hid (ho.out.keep G1.out)
        have HSZ1 := Lib.hid HG1.out.size
        have HL := Lib.hid HO1.out.lt
        have HAL := Lib.hid hal.out
        have a1 := G1.out.cell x1 (by simp); have b1 := G1.out.cell y1 (by simp)
        have X1 := Lib.hid a1; have Y1 := Lib.hid b1
        clear u0 u1 u2 u3 x0 x1 y0 y1 hg ho hal GA hmx hmn
        by_cases hz : mx ≤ mn
        · have hi := HI0.out; have hz0 := HZ0.out; have hz1 := HZ1.out; have hz2 := HZ2.out
          have hacc : acc.length ≤ 2002 := by have := HAL.out; omega
          clear a1 b1
          go_wp2_with (at_builtin; refine wpList_append_own _ rfl _ _ 22 rfl w.heap.size 37 i0 (.agg #[.int .i64 0, .int .i64 0]) 2 16 Tryd.underlying22 hi hz0 hz1 hz2 rfl (by decide) _ acc.length _ rfl (HO1.out.alloc _) ⟨W1.heap.size, 0, none⟩ 1 1 [.int .i64 mx, .int .i64 mn] rfl rfl (World.news_of_block (cs := #[.int .i64 mx, .int .i64 mn]) (t := 37) (fr := (0, 0)) (mheap_new W1 _)) (by simp [Value.oneCell']) (by unfold maxLen; omega) (by omega) (by have := HSZ1.out; simp; omega) ?_; intro v' w3 hown' hgrow' _; have HN := Lib.hid (SpOwn.more hown'); have HN2 := Lib.hid (grown_anyS (grown_trans HG1.out (World.grownBy_alloc _ _ none)) hgrow' (fun r e => (HL.out r e).1)); have X3 := hgrow'.cell ((World.grownBy_alloc W1 _ none).cell X1.out (by simp)) (fun e => absurd LA.out (Nat.not_lt.2 (HL.out _ e.symm).1)); have Y3 := hgrow'.cell ((World.grownBy_alloc W1 _ none).cell Y1.out (by simp)) (fun e => absurd LB.out (Nat.not_lt.2 (HL.out _ e.symm).1)); clear hown' hgrow' hi hz0 hz1 hz2 z0 z1)
          by_cases hc : xt < yt
          · as_aux_lemma =>
              have hqc : decide (xt < yt) = true := decide_eq_true hc
              have HD : Hid ((acc ++ [⟨mx, mn⟩]) ++ comL (A.drop (i + 1)) (B.drop j) = comL A B) := by
                have q := HDD.out
                rw [if_pos hz, if_pos hc] at q
                show _ = _
                rw [← q]; simp [List.append_assoc]
              clear hc HDD
              go_wp2_with fail
              go_quiet (fail)
              go_wp2_with fail
              go_roundw
              case rel => exact ⟨⟨i + 1, j, _, v', by omega, by omega, by go_num, by go_num, rfl, (by have := HAL.out; show _ ≤ _; simp; omega), HD.out, HN.out.keep (grown_drewN _ _ _)⟩, grown_trans HN2.out (grown_drewN _ _ _)⟩
              case measure => simp [intOf]; omega
          · as_aux_lemma =>
              have hqc : decide (xt < yt) = false := decide_eq_false hc
              have HD : Hid ((acc ++ [⟨mx, mn⟩]) ++ comL (A.drop i) (B.drop (j + 1)) = comL A B) := by
                have q := HDD.out
                rw [if_pos hz, if_neg hc] at q
                show _ = _
                rw [← q]; simp [List.append_assoc]
              clear hc HDD
              go_wp2_with fail
              go_quiet (fail)
              go_wp2_with fail
              go_roundw
              case rel => exact ⟨⟨i, j + 1, _, v', by omega, by omega, by go_num, by go_num, rfl, (by have := HAL.out; show _ ≤ _; simp; omega), HD.out, HN.out.keep (grown_drewN _ _ _)⟩, grown_trans HN2.out (grown_drewN _ _ _)⟩
              case measure => simp [intOf]; omega
        · skip
          by_cases hc : xt < yt
          · as_aux_lemma =>
              have hqc : decide (xt < yt) = true := decide_eq_true hc
              have HD : Hid (acc ++ comL (A.drop (i + 1)) (B.drop j) = comL A B) := by
                have q := HDD.out
                rw [if_neg hz, if_pos hc] at q
                show _ = _
                rw [← q]; simp [List.append_assoc]
              clear hc HDD
              go_wp2_with fail
              go_quiet (fail)
              go_wp2_with fail
              go_roundw
              case rel => exact ⟨⟨i + 1, j, _, v, by omega, by omega, by go_num, by go_num, rfl, (by have := HAL.out; show _ ≤ _; omega), HD.out, HO1.out.keep (grown_drewN _ _ _)⟩, grown_trans HG1.out (grown_drewN _ _ _)⟩
              case measure => simp [intOf]; omega
          · as_aux_lemma =>
              have hqc : decide (xt < yt) = false := decide_eq_false hc
              have HD : Hid (acc ++ comL (A.drop i) (B.drop (j + 1)) = comL A B) := by
                have q := HDD.out
                rw [if_neg hz, if_neg hc] at q
                show _ = _
                rw [← q]; simp [List.append_assoc]
              clear hc HDD
              go_wp2_with fail
              go_quiet (fail)
              go_wp2_with fail
              go_roundw
              case rel => exact ⟨⟨i, j + 1, _, v, by omega, by omega, by go_num, by go_num, rfl, (by have := HAL.out; show _ ≤ _; omega), HD.out, HO1.out.keep (grown_drewN _ _ _)⟩, grown_trans HG1.out (grown_drewN _ _ _)⟩
              case measure => simp [intOf]; omega
      · have HD : Hid (acc = comL A B) := by
          have q := hd.out
          rw [show B.drop j = [] from List.drop_eq_nil_of_le (by omega), com_nil, List.append_nil] at q; exact q
        clear hd
        go_wp2_with fail
        go_ret
        exact ⟨⟨v, rfl, by rw [← HD.out]; exact ho.out⟩, hg.out⟩
    · have HD : Hid (acc = comL A B) := by
        have q := hd.out
        rw [show A.drop i = [] from List.drop_eq_nil_of_le (by omega)] at q
        rw [com_nil2, List.append_nil] at q; exact q
      clear hd
      go_wp2_with fail
      go_ret
      exact ⟨⟨v, rfl, by rw [← HD.out]; exact ho.out⟩, hg.out⟩
end Go.Proofs.YtbacoopopokkfaaDoor
