/- The contract of spansForm. -/
import Derived.Test.YtbacoopopokkfaaDoorQRdP
import Derived.Test.YtbacoopopokkfaaDoorQSix
import Derived.Test.YtbacoopopokkfaaDoorQSetG
namespace Go.Proofs.YtbacoopopokkfaaDoor
open Go.RowKit Go.Shelf
set_option linter.unusedSimpArgs false
set_option linter.unusedVariables false

def posI (W : World) (a : Nat) : Int := match W.cell? ⟨a, 0, none⟩ with | some v => intOf v | none => 0
theorem posI_is {W : World} {a b : Nat} {s : ByteArray} {k : Nat} (h : At W a b s k) : posI W a = (k : Int) := by
  have q : W.cell? ⟨a, 0, none⟩ = some (.int .i64 (k : Int)) := mblock_cell h.hA 0 _ rfl
  unfold posI; rw [q]; rfl
theorem SpOwn.far {b a : Nat} {w w' : World} {v : Value} {L : List SpV} (h : SpOwn b w v L) (g : w.grownBy w' (some a)) (ha : a < b) : SpOwn b w' v L := World.ownsRow.kept (h : World.ownsRow _ _ _ _ _ _ _) g (by
  by_cases e : v.ownBlock = none
  · exact .inl e
  · right; intro e2; have := (h.lt a e2).1; omega)
theorem Moved.app0 {w W W' : World} {a b : Nat} {s : ByteArray} {k : Nat} (h : Moved w W a b s k) (g : W.grownBy W' none) : Moved w W' a b s k := h.trans (h.pos.grown g)
theorem Moved.app {w W W' : World} {a b : Nat} {s : ByteArray} {k : Nat} {r : Option Nat} (h : Moved w W a b s k) (g : W.grownBy W' r) (hr : ∀ j, r = some j → w.heap.size ≤ j) (ha : a < w.heap.size) (hb : b < w.heap.size) : Moved w W' a b s k :=
  ⟨⟨(g.block a (lt_of_block h.pos.hA) (fun e => by have := hr a e.symm; omega)).trans h.pos.hA, (g.block b (lt_of_block h.pos.hB) (fun e => by have := hr b e.symm; omega)).trans h.pos.hB, h.pos.sz, h.pos.le⟩,
   ⟨g.os.trans h.g.os, g.tape.trans h.g.tape, g.output.trans h.g.output, Nat.le_trans h.g.size g.size, fun i hi hne => (g.block i (Nat.lt_of_lt_of_le hi h.g.size) (fun e => by have := hr i e.symm; omega)).trans (h.g.block i hi hne)⟩⟩

set_option maxRecDepth 100000 in
set_option maxHeartbeats 6400000 in
theorem spansForm_is {s : ByteArray} {k a b : Nat} {w : World} (hat : At w a b s k) (hsz : s.size ≤ 100000) {l : List SpV} {u : Nat} {ok : Bool} (h : spsV (rem s k) [] 0 = (l, u, ok)) :
    Calls Tryd.prog 30 #[.func (.func 73) #[] #[.pointer (some ⟨a, 0, none⟩), .pointer (some ⟨b, 0, none⟩)]] w fun e w' => (∃ v, e = .returned (.tuple #[v, .bool ok]) ∧ SpOwn w.heap.size w' v l) ∧ Moved w w' a b s (k + u) := by
  obtain ⟨i0, hi, hz0, hz1, hz2⟩ := info_parts zero_sp
  have HI0 := Lib.hid hi; have HZ0 := Lib.hid hz0; have HZ1 := Lib.hid hz1; have HZ2 := Lib.hid hz2
  have HAT := Lib.hid hat; have HS := Lib.hid h; have HLT := Lib.hid hat.lt
  clear hi hz0 hz1 hz2 hat h
  go_enter Tryd.func30, Tryd.ntmps30
  go_wp2_with fail
  go_loopw [2] (fun lv wr => (∃ (u' : Nat) (acc : List SpV) (v : Value), v = lv ∧ Hid (SpOwn w.heap.size wr v acc) ∧ Hid (Moved w wr a b s (k + u')) ∧ Hid (spsV (rem s (k + u')) acc u' = (l, u, ok)) ∧ Hid (acc.length ≤ u')) ∧ True) (fun _ wr => ((s.size : Int) - posI wr a).toNat)
  case atStart => exact ⟨⟨0, [], _, rfl, SpOwn.nil _ _, HAT.out.refl, HS.out, Nat.le_refl _⟩, trivial⟩
  case round =>
    obtain ⟨⟨u', acc, v, rfl, ho, hm, hsp, hal⟩, _⟩ := hrel
    have HAL := Lib.hid hal.out
    rcases hn : numV 0 9999999999999 (rem s (k + u')) with ⟨n, o, x1⟩
    have hno := @numV_no 0 9999999999999 (rem s (k + u'))
    rw [hn] at hno
    simp only at hno
    have HN := Lib.hid hn
    cases o with
    | false =>
      have hx0 := hno rfl
      subst hx0
      have HON : Hid (oneV (rem s (k + u')) = (false, 0, ⟨0, 0⟩)) := by show _ = _; unfold oneV; rw [HN.out]; rfl
      have HF : Hid ((acc, u', decide (acc.length = 0)) = (l, u, ok)) := by
        show _ = _
        rw [← hsp.out, spsV_none (by rw [HON.out]) (by rw [HON.out])]
      have hf := HF.out
      simp only [Prod.mk.injEq] at hf
      obtain ⟨e1, e2, e3⟩ := hf
      subst e1; subst e2
      obtain ⟨ua, uc, rfl, _⟩ := ho.out.rows
      clear hn hno HF hsp
      by_cases h0 : acc.length = 0
      · have hq : ((acc.length : Int) == 0) = true := by simp [h0]
        have HOK : Hid (true = ok) := by show _ = _; rw [← e3, h0]; rfl
        have HO := Lib.hid ho.out
        clear h0 e3
        go_wp2_with fail
        refine (number_is 0 9999999999999 (.inl rfl) (by omega) (by omega) hm.out.pos HN.out).mono ?_; rintro e w1 ⟨rfl, hm1⟩
        go_wp2_with fail
        go_ret2
        exact ⟨⟨.slice ua acc.length uc, by rw [← HOK.out]; rfl, SpOwn.far HO.out hm1.g HLT.out.1⟩, (hm.out.trans hm1).eq rfl⟩
      · have hq : ((acc.length : Int) == 0) = false := by rw [beq_eq_false_iff_ne]; omega
        have HOK : Hid (false = ok) := by show _ = _; rw [← e3, decide_eq_false h0]
        have HO := Lib.hid ho.out
        clear h0 e3
        go_wp2_with fail
        refine (number_is 0 9999999999999 (.inl rfl) (by omega) (by omega) hm.out.pos HN.out).mono ?_; rintro e w1 ⟨rfl, hm1⟩
        go_wp2_with fail
        go_ret2
        exact ⟨⟨.slice ua acc.length uc, by rw [← HOK.out]; rfl, SpOwn.far HO.out hm1.g HLT.out.1⟩, (hm.out.trans hm1).eq rfl⟩
    | true =>
      rcases hw : wordV [45] (rem s (k + (u' + x1))) with ⟨da, y⟩
      have HRD : Hid ((rem s (k + u')).drop x1 = rem s (k + (u' + x1))) := by show _ = _; rw [rem_drop, Nat.add_assoc]
      clear hno
      cases da with
      | false =>
        have hy := (word1_no (R := rem s (k + (u' + x1))) (c := 45) (by rw [hw])).symm.trans hw
        simp only [Prod.mk.injEq, true_and] at hy
        subst hy
        have HW := Lib.hid hw
        have HON : Hid (oneV (rem s (k + u')) = (true, x1, ⟨n, n⟩)) := by
          show _ = _
          unfold oneV
          simp only [HN.out, HRD.out, HW.out, if_true]
          simp
        clear hn hw
        go_wp2_with fail
        refine (number_is 0 9999999999999 (.inl rfl) (by omega) (by omega) hm.out.pos HN.out).mono ?_; rintro e w1 ⟨rfl, hm1⟩
        have HM1 := Lib.hid ((hm.out.trans hm1).eq (Nat.add_assoc _ _ _))
        have HO1 := Lib.hid (SpOwn.far ho.out hm1.g HLT.out.1)
        clear hm1 ho
        go_wp2_with fail
        refine (word_is ⟨#[45]⟩ (by decide) HM1.out.pos HW.out).mono ?_; rintro e w2 ⟨rfl, hm2⟩
        have HM2 := Lib.hid ((HM1.out.trans hm2).eq (Nat.add_zero _))
        have HO2 := Lib.hid (SpOwn.far HO1.out hm2.g HLT.out.1)
        clear hm2 HO1
        as_aux_lemma =>
            have HSZ := Lib.hid HM2.out.g.size
            obtain ⟨ua, uc, rfl, _⟩ := HO2.out.rows
            have HL := Lib.hid HO2.out.lt
            have hi := HI0.out; have hz0 := HZ0.out; have hz1 := HZ1.out; have hz2 := HZ2.out
            have hac : acc.length ≤ 100001 := by have := HAL.out; have := hm.out.pos.le; omega
            go_wp2_with (at_builtin; refine wpList_append_own _ rfl _ _ 22 rfl w.heap.size 37 i0 (.agg #[.int .i64 0, .int .i64 0]) 2 16 Tryd.underlying22 hi hz0 hz1 hz2 rfl (by decide) _ acc.length _ rfl (HO2.out.alloc _) ⟨w2.heap.size, 0, none⟩ 1 1 [.int .i64 n, .int .i64 n] rfl rfl (World.news_of_block (cs := #[.int .i64 n, .int .i64 n]) (t := 37) (fr := (0, 0)) (mheap_new w2 _)) (by simp [Value.oneCell']) (by unfold maxLen; omega) (by omega) (by have := HSZ.out; simp; omega) ?_; intro v' w5 hown' hgrow' _; have HN := Lib.hid (SpOwn.more hown'); have HM5 := Lib.hid (Moved.app (HM2.out.app0 (World.grownBy_alloc w2 (.cells #[.int .i64 n, .int .i64 n] 37) none)) hgrow' (fun r e => (HL.out r e).1) HLT.out.1 HLT.out.2.1); clear hown' hgrow' hi hz0 hz1 hz2)
            rcases hc : wordV [44] (rem s (k + (u' + (x1)))) with ⟨cm, z⟩
            cases cm with
            | false =>
              have hz := (word1_no (R := rem s (k + (u' + (x1)))) (c := 44) (by rw [hc])).symm.trans hc
              simp only [Prod.mk.injEq, true_and] at hz
              subst hz
              have HC := Lib.hid hc
              have HF : Hid ((acc ++ [⟨n, n⟩], u' + (x1), true) = (l, u, ok)) := by
                show _ = _
                rw [← hsp.out, spsV_last (by rw [HON.out]) (by rw [HON.out]; show (wordV [44] ((rem s (k + u')).drop (x1))).1 = false; rw [rem_drop, Nat.add_assoc, HC.out]), HON.out]
              have hf := HF.out
              simp only [Prod.mk.injEq] at hf
              obtain ⟨e1, e2, e3⟩ := hf
              subst e1; subst e2; subst e3
              clear hc HF hsp
              go_wp2_with fail
              refine (word_is ⟨#[44]⟩ (by decide) HM5.out.pos HC.out).mono ?_; rintro e w6 ⟨rfl, hm6⟩
              go_wp2_with fail
              go_ret2
              exact ⟨⟨_, rfl, SpOwn.far HN.out hm6.g HLT.out.1⟩, (HM5.out.trans hm6).eq rfl⟩
            | true =>
              have hz := (word1_yes (R := rem s (k + (u' + (x1)))) (c := 44) (by rw [hc])).symm.trans hc
              simp only [Prod.mk.injEq, true_and] at hz
              subst hz
              have HC := Lib.hid hc
              have HF : Hid (spsV (rem s (k + (u' + (x1) + 1))) (acc ++ [⟨n, n⟩]) (u' + (x1) + 1) = (l, u, ok)) := by
                refine Eq.trans ?_ ((spsV_more (R := rem s (k + u')) (l := acc) (u := u') (by rw [HON.out]) (by rw [HON.out]; show (wordV [44] ((rem s (k + u')).drop (x1))).1 = true; rw [rem_drop, Nat.add_assoc, HC.out])).symm.trans hsp.out)
                rw [HON.out]
                show _ = spsV ((rem s (k + u')).drop ((x1) + 1)) (acc ++ [⟨n, n⟩]) (u' + (x1) + 1)
                rw [rem_drop]
                simp only [Nat.add_assoc]
              clear hc hsp
              go_wp2_with fail
              refine (word_is ⟨#[44]⟩ (by decide) HM5.out.pos HC.out).mono ?_; rintro e w6 ⟨rfl, hm6⟩
              have HM6 := Lib.hid (HM5.out.trans hm6)
              have HN6 := Lib.hid (SpOwn.far HN.out hm6.g HLT.out.1)
              have HP0 := Lib.hid (posI_is hm.out.pos); have HP6 := Lib.hid (posI_is hm6.pos)
              have HLE6 := Lib.hid hm6.pos.le
              clear hm6
              go_wp2_with fail
              go_roundw
              case rel => exact ⟨⟨u' + (x1) + 1, _, _, rfl, HN6.out, HM6.out.eq (by omega), HF.out, by show _ ≤ _; have := HAL.out; simp; omega⟩, trivial⟩
              case measure => rw [HP0.out, HP6.out]; have := HLE6.out; omega
      | true =>
        have hy := (word1_yes (R := rem s (k + (u' + x1))) (c := 45) (by rw [hw])).symm.trans hw
        simp only [Prod.mk.injEq, true_and] at hy
        subst hy
        have HW := Lib.hid hw
        rcases hn2 : numV 0 9999999999999 (rem s (k + (u' + x1 + 1))) with ⟨n2, o2, x2⟩
        have hno2 := @numV_no 0 9999999999999 (rem s (k + (u' + x1 + 1)))
        rw [hn2] at hno2
        simp only at hno2
        have HN2 := Lib.hid hn2
        have HRD2 : Hid ((rem s (k + u')).drop (x1 + 1) = rem s (k + (u' + x1 + 1))) := by show _ = _; rw [rem_drop]; simp only [Nat.add_assoc]
        go_wp2_with fail
        refine (number_is 0 9999999999999 (.inl rfl) (by omega) (by omega) hm.out.pos HN.out).mono ?_; rintro e w1 ⟨rfl, hm1⟩
        have HM1 := Lib.hid ((hm.out.trans hm1).eq (Nat.add_assoc _ _ _))
        have HO1 := Lib.hid (SpOwn.far ho.out hm1.g HLT.out.1)
        clear hm1 ho
        go_wp2_with fail
        refine (word_is ⟨#[45]⟩ (by decide) HM1.out.pos HW.out).mono ?_; rintro e w2 ⟨rfl, hm2⟩
        have HM2 := Lib.hid ((HM1.out.trans hm2).eq (show k + (u' + x1) + 1 = k + (u' + x1 + 1) by omega))
        have HO2 := Lib.hid (SpOwn.far HO1.out hm2.g HLT.out.1)
        clear hm2 HO1
        go_wp2_with fail
        refine (number_is 0 9999999999999 (.inl rfl) (by omega) (by omega) HM2.out.pos HN2.out).mono ?_; rintro e w3 ⟨rfl, hm3⟩
        have HM3 := Lib.hid ((HM2.out.trans hm3).eq (show k + (u' + x1 + 1) + x2 = k + (u' + (x1 + 1 + x2)) by omega))
        have HO3 := Lib.hid (SpOwn.far HO2.out hm3.g HLT.out.1)
        clear hm3 HO2
        cases o2 with
        | false =>
          have hx2 := hno2 rfl
          subst hx2
          have HON : Hid (oneV (rem s (k + u')) = (false, x1 + 1, ⟨0, 0⟩)) := by
            show _ = _
            unfold oneV
            simp only [HN.out, HRD.out, HW.out, HRD2.out, HN2.out, if_true]
            simp
          have HF : Hid (([], u' + (x1 + 1), false) = (l, u, ok)) := by
            show _ = _
            rw [← hsp.out, spsV_bad (by rw [HON.out]) (by rw [HON.out]; simp), HON.out]
          have hf := HF.out
          simp only [Prod.mk.injEq] at hf
          obtain ⟨e1, e2, e3⟩ := hf
          subst e1; subst e2; subst e3
          clear hn hn2 hno2 hw HF hsp
          go_wp2_with fail
          go_ret2
          exact ⟨⟨_, rfl, SpOwn.nil _ _⟩, HM3.out.eq (by omega)⟩
        | true =>
          have HON : Hid (oneV (rem s (k + u')) = (true, x1 + 1 + x2, ⟨n, n2⟩)) := by
            show _ = _
            unfold oneV
            simp only [HN.out, HRD.out, HW.out, HRD2.out, HN2.out, if_true]
          clear hn hn2 hno2 hw
          as_aux_lemma =>
              have HSZ := Lib.hid HM3.out.g.size
              obtain ⟨ua, uc, rfl, _⟩ := HO3.out.rows
              have HL := Lib.hid HO3.out.lt
              have hi := HI0.out; have hz0 := HZ0.out; have hz1 := HZ1.out; have hz2 := HZ2.out
              have hac : acc.length ≤ 100001 := by have := HAL.out; have := hm.out.pos.le; omega
              go_wp2_with (at_builtin; refine wpList_append_own _ rfl _ _ 22 rfl w.heap.size 37 i0 (.agg #[.int .i64 0, .int .i64 0]) 2 16 Tryd.underlying22 hi hz0 hz1 hz2 rfl (by decide) _ acc.length _ rfl (HO3.out.alloc _) ⟨w3.heap.size, 0, none⟩ 1 1 [.int .i64 n, .int .i64 n2] rfl rfl (World.news_of_block (cs := #[.int .i64 n, .int .i64 n2]) (t := 37) (fr := (0, 0)) (mheap_new w3 _)) (by simp [Value.oneCell']) (by unfold maxLen; omega) (by omega) (by have := HSZ.out; simp; omega) ?_; intro v' w5 hown' hgrow' _; have HN := Lib.hid (SpOwn.more hown'); have HM5 := Lib.hid (Moved.app (HM3.out.app0 (World.grownBy_alloc w3 (.cells #[.int .i64 n, .int .i64 n2] 37) none)) hgrow' (fun r e => (HL.out r e).1) HLT.out.1 HLT.out.2.1); clear hown' hgrow' hi hz0 hz1 hz2)
              rcases hc : wordV [44] (rem s (k + (u' + (x1 + 1 + x2)))) with ⟨cm, z⟩
              cases cm with
              | false =>
                have hz := (word1_no (R := rem s (k + (u' + (x1 + 1 + x2)))) (c := 44) (by rw [hc])).symm.trans hc
                simp only [Prod.mk.injEq, true_and] at hz
                subst hz
                have HC := Lib.hid hc
                have HF : Hid ((acc ++ [⟨n, n2⟩], u' + (x1 + 1 + x2), true) = (l, u, ok)) := by
                  show _ = _
                  rw [← hsp.out, spsV_last (by rw [HON.out]) (by rw [HON.out]; show (wordV [44] ((rem s (k + u')).drop (x1 + 1 + x2))).1 = false; rw [rem_drop, Nat.add_assoc, HC.out]), HON.out]
                have hf := HF.out
                simp only [Prod.mk.injEq] at hf
                obtain ⟨e1, e2, e3⟩ := hf
                subst e1; subst e2; subst e3
                clear hc HF hsp
                go_wp2_with fail
                refine (word_is ⟨#[44]⟩ (by decide) HM5.out.pos HC.out).mono ?_; rintro e w6 ⟨rfl, hm6⟩
                go_wp2_with fail
                go_ret2
                exact ⟨⟨_, rfl, SpOwn.far HN.out hm6.g HLT.out.1⟩, (HM5.out.trans hm6).eq rfl⟩
              | true =>
                have hz := (word1_yes (R := rem s (k + (u' + (x1 + 1 + x2)))) (c := 44) (by rw [hc])).symm.trans hc
                simp only [Prod.mk.injEq, true_and] at hz
                subst hz
                have HC := Lib.hid hc
                have HF : Hid (spsV (rem s (k + (u' + (x1 + 1 + x2) + 1))) (acc ++ [⟨n, n2⟩]) (u' + (x1 + 1 + x2) + 1) = (l, u, ok)) := by
                  refine Eq.trans ?_ ((spsV_more (R := rem s (k + u')) (l := acc) (u := u') (by rw [HON.out]) (by rw [HON.out]; show (wordV [44] ((rem s (k + u')).drop (x1 + 1 + x2))).1 = true; rw [rem_drop, Nat.add_assoc, HC.out])).symm.trans hsp.out)
                  rw [HON.out]
                  show _ = spsV ((rem s (k + u')).drop ((x1 + 1 + x2) + 1)) (acc ++ [⟨n, n2⟩]) (u' + (x1 + 1 + x2) + 1)
                  rw [rem_drop]
                  simp only [Nat.add_assoc]
                clear hc hsp
                go_wp2_with fail
                refine (word_is ⟨#[44]⟩ (by decide) HM5.out.pos HC.out).mono ?_; rintro e w6 ⟨rfl, hm6⟩
                have HM6 := Lib.hid (HM5.out.trans hm6)
                have HN6 := Lib.hid (SpOwn.far HN.out hm6.g HLT.out.1)
                have HP0 := Lib.hid (posI_is hm.out.pos); have HP6 := Lib.hid (posI_is hm6.pos)
                have HLE6 := Lib.hid hm6.pos.le
                clear hm6
                go_wp2_with fail
                go_roundw
                case rel => exact ⟨⟨u' + (x1 + 1 + x2) + 1, _, _, rfl, HN6.out, HM6.out.eq (by omega), HF.out, by show _ ≤ _; have := HAL.out; simp; omega⟩, trivial⟩
                case measure => rw [HP0.out, HP6.out]; have := HLE6.out; omega
end Go.Proofs.YtbacoopopokkfaaDoor
