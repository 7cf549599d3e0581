/- The contract of the reference's ReadSpans. -/
import Derived.Test.YtbacoopopokkfaaDoorQRRdQ
import Derived.Test.YtbacoopopokkfaaDoorQInOrd
import Derived.Test.YtbacoopopokkfaaDoorQRunNumW
import Derived.BigRegion
import Derived.BigQuiet
namespace Go.Proofs.YtbacoopopokkfaaDoor
open Go.RowKit Go.Shelf
set_option linter.unusedSimpArgs false
set_option linter.unusedVariables false

theorem tok_readN {w : World} {a b c d e : Value} (tmps : Array Value) (h2 : tmps[6]?.getD undef = .pointer (some ⟨w.heap.size, 0, none⟩)) :
    (results Tryd.f34 tmps).run Tryd.prog (w.alloc (.cells #[a, b, c, d, e] 57)) = .ok (.agg #[a, b, c, d, e]) (w.alloc (.cells #[a, b, c, d, e] 57)) := by
  have hb : (w.alloc (.cells #[a, b, c, d, e] 57)).heap[w.heap.size]? = _ := heap_alloc_new w _
  have q0 : (w.alloc (.cells #[a, b, c, d, e] 57)).cell? ⟨w.heap.size, 0, none⟩ = some a := by simp only [World.cell?, hb]; rfl
  have q1 : (w.alloc (.cells #[a, b, c, d, e] 57)).cell? ⟨w.heap.size, 1, none⟩ = some b := by simp only [World.cell?, hb]; rfl
  have q2 : (w.alloc (.cells #[a, b, c, d, e] 57)).cell? ⟨w.heap.size, 2, none⟩ = some c := by simp only [World.cell?, hb]; rfl
  have q3 : (w.alloc (.cells #[a, b, c, d, e] 57)).cell? ⟨w.heap.size, 3, none⟩ = some d := by simp only [World.cell?, hb]; rfl
  have q4 : (w.alloc (.cells #[a, b, c, d, e] 57)).cell? ⟨w.heap.size, 4, none⟩ = some e := by simp only [World.cell?, hb]; rfl
  unfold results
  rw [Tryd.results34]
  simp [go_sem, h2, q0, q1, q2, q3, q4]
theorem num_is (a b c : Int) (w : World) : Calls Tryd.prog 34 #[.int .i64 a, .int .i64 b, .int .i64 c] w fun e w' => e = .returned (.agg #[.int .i64 2, .string ⟨#[]⟩, .int .i64 a, .int .i64 b, .int .i64 c]) ∧ w.grownBy w' none := by
  go_enter Tryd.func34, Tryd.ntmps34
  go_wp2_with fail
  exact bodyPost_ret (tok_readN _ rfl) rfl ⟨rfl, World.grownBy_alloc _ _ _⟩

set_option maxRecDepth 100000 in
set_option maxHeartbeats 12800000 in
theorem rReadSpans_is (s : ByteArray) (hs : s.size ≤ 140737488351232) (w : World) {ev : Value} (hv : w.cell? ⟨4, 0, none⟩ = some ev) (hev : ev = .nilIface ∨ ∃ te pe, ev = .iface te pe) {l : List SpV} {at_ e : Int} (hr : rdsR s = (l, at_, e)) :
    Calls Tryd.prog 14 #[.string s] w fun x w' => (∃ v, x = .returned (.tuple #[v, .int .i64 at_, .int .i64 e]) ∧ SpOwn w.heap.size w' v l) ∧ w.grownBy w' none := by
  obtain ⟨i0, hi, hz0, hz1, hz2⟩ := info_parts zero_sp
  have HI0 := Lib.hid hi; have HZ0 := Lib.hid hz0; have HZ1 := Lib.hid hz1; have HZ2 := Lib.hid hz2
  have HV := Lib.hid (And.intro hv hev)
  have HR := Lib.hid hr
  clear hi hz0 hz1 hz2 hv hev hr
  by_cases hemp : s = ⟨#[]⟩
  · subst hemp
    have HR2 : Hid (chkR [] = (l, at_, e)) := by
      show _ = _
      rw [← HR.out]
      have e0 : rdR ⟨#[]⟩ = ([], 0, 0) := by
        unfold rdR
        rw [if_neg (by decide)]
        have e1 : spsV (rem ⟨#[]⟩ 0) [] 0 = ([], 0, true) := spsV_none rfl rfl
        rw [e1]; rfl
      unfold rdsR; rw [e0]; rfl
    unfold chkR at HR2
    go_enter Tryd.func14, Tryd.ntmps14
    go_wp2_with fail
    refine (num_is _ _ _ _).mono ?_; rintro x w1 ⟨rfl, hg1⟩
    have HG1 := Lib.hid (grown_trans hg1 (World.grownBy_alloc w1 (.cells #[.int .i64 2, .string ⟨#[]⟩, .int .i64 0, .int .i64 9999999999999, .int .i64 13] 57) none))
    clear hg1
    go_wp2_with fail
    go_loopw [5, 7] (fun sv av wr => sv = .slice none 0 0 ∧ av = .int .i64 0 ∧ Hid (w.grownBy wr none)) (fun _ _ _ => 0)
    case atStart => exact ⟨rfl, rfl, HG1.out⟩
    case round =>
      obtain ⟨rfl, rfl, hg⟩ := hrel
      clear HG1
      go_wp2_with fail
      go_loopw [79] (fun av wr => av = .int .i64 0 ∧ Hid (w.grownBy wr none)) (fun _ _ => 0)
      case atStart => exact ⟨rfl, hg.out⟩
      case round =>
        clear hg
        obtain ⟨rfl, hg⟩ := hrel
        go_wp2_with fail
        go_loopw [94] (fun av wr => av = .int .i64 0 ∧ Hid (w.grownBy wr none)) (fun _ _ => 0)
        case atStart => exact ⟨rfl, hg.out⟩
        case round =>
          clear hg
          obtain ⟨rfl, hg⟩ := hrel
          have HLI := Lib.hid (inOrder_is 0 none 0 [] (Nat.le_refl _) (by simp) (Nat.le_refl _) wr (rows_empty _))
          go_wp2_with fail
          refine HLI.out.mono ?_
          rintro x w5 ⟨⟨po, pc, S, rfl, hcs, hrs, hps, hss⟩, hg5⟩
          have e0 : S = [] := List.Perm.eq_nil hps
          subst e0
          have HG5 := Lib.hid (grown_trans hg.out hg5)
          have hr := HR2.out
          have ej : jnL (srtS []) = [] := by unfold srtS; rw [List.mergeSort_nil]; rfl
          rw [ej] at hr
          simp only [List.any_nil, Bool.false_eq_true, ↓reduceIte, List.length_nil, Nat.not_lt_zero, Prod.mk.injEq] at hr
          obtain ⟨rfl, rfl, rfl⟩ := hr
          clear hcs hrs hps hss hg5 HLI hg HR HR2
          go_wp2_with fail
          go_loopw [16, 107] (fun ov av wr => ov = .slice none 0 0 ∧ av = .int .i64 0 ∧ Hid (w.grownBy wr none)) (fun _ _ _ => 0)
          case atStart => exact ⟨rfl, rfl, HG5.out⟩
          case round =>
            clear HG5
            obtain ⟨rfl, rfl, hg⟩ := hrel
            go_wp2_with fail
            go_ret3
            exact ⟨⟨_, rfl, SpOwn.nil _ _⟩, hg.out⟩
  · by_cases h40 : 40000 < s.size
    · have hr := HR.out
      have e0 : rdR s = ([], 0, 3) := by unfold rdR; rw [if_pos h40]
      have e1 : rdsR s = ([], 0, 3) := by unfold rdsR; rw [e0]; rfl
      rw [e1] at hr
      simp only [Prod.mk.injEq] at hr
      obtain ⟨rfl, rfl, rfl⟩ := hr
      have hb : (40000 : Int) < (s.size : Int) := by omega
      clear HR
      go_enter Tryd.func14, Tryd.ntmps14
      go_wp2_with fail
      go_ret3
      exact ⟨⟨_, rfl, SpOwn.nil _ _⟩, World.grownBy.refl _ _⟩
    · have hb : ¬ (40000 : Int) < (s.size : Int) := by omega
      have hs2 : s.size ≤ 40000 := by omega
      have hne : 0 < s.size := by
        rcases Nat.eq_zero_or_pos s.size with h | h
        · exact absurd (ByteArray.ext (Array.eq_empty_of_size_eq_zero h)) hemp
        · exact h
      have H40 := Lib.hid h40; have HNE := Lib.hid hne
      have hne2 : s.toList.isEmpty = false := by
        rw [Lib.toList_data]
        cases hd : s.data.toList with
        | nil => exact absurd (ByteArray.ext (Array.toList_inj.1 hd)) hemp
        | cons _ _ => rfl
      clear h40 hne
      go_enter Tryd.func14, Tryd.ntmps14
      go_wp2_with fail
      refine (num_is _ _ _ _).mono ?_; rintro x w1 ⟨rfl, hg1⟩
      have HX1 : Hid ((w1.alloc (.cells #[.int .i64 2, .string ⟨#[]⟩, .int .i64 0, .int .i64 9999999999999, .int .i64 13] 57)).heap[w1.heap.size]? = some (.cells #[.int .i64 2, .string ⟨#[]⟩, .int .i64 0, .int .i64 9999999999999, .int .i64 13] 57 (0, 0))) := mheap_new w1 _
      have HG1 := Lib.hid (grown_trans hg1 (World.grownBy_alloc w1 (.cells #[.int .i64 2, .string ⟨#[]⟩, .int .i64 0, .int .i64 9999999999999, .int .i64 13] 57) none))
      have hxl : w.heap.size ≤ w1.heap.size := hg1.size
      obtain ⟨X, hX⟩ : ∃ X, w1.heap.size = X := ⟨_, rfl⟩
      rw [hX] at hxl HX1
      have HXL := Lib.hid hxl
      clear hg1 hxl
      go_wp2_with fail
      try simp only [hX]
      clear hX
      go_loopw [5, 7] (fun sv av wr => (∃ (acc : List SpV) (u : Nat) (v : Value), v = sv ∧ av = .int .i64 u ∧ Hid (AtW s acc u) ∧ Hid (SpOwn (X + 1) wr v acc)) ∧ Hid (wr.heap[X]? = some (.cells #[.int .i64 2, .string ⟨#[]⟩, .int .i64 0, .int .i64 9999999999999, .int .i64 13] 57 (0, 0))) ∧ Hid (w.grownBy wr none)) (fun _ av _ => s.size - (intOf av).toNat)
      case atStart => exact ⟨⟨[], 0, _, rfl, rfl, Lib.hid ⟨rfl, fun _ => rfl, Nat.le_refl _, Nat.zero_le _, fun _ h => (by cases h)⟩, SpOwn.nil _ _⟩, HX1, HG1.out⟩
      case round =>
        obtain ⟨⟨acc, u, v, rfl, rfl, HI, HO⟩, HX, HG⟩ := hrel
        clear HX1 HG1
        have hu : u ≤ s.size := HI.out.2.2.2.1
        obtain ⟨ua, uc, rfl, _⟩ := HO.out.rows
        obtain ⟨a, ok, c, hp⟩ : ∃ a ok c, numV 0 9999999999999 (rem s u) = ⟨a, ok, c⟩ := ⟨_, _, _, rfl⟩
        have hle : u + c ≤ s.size := by have := numV_le 0 9999999999999 (rem s u); rw [hp, rem_len] at this; simp only at this; omega
        have HP1 := Lib.hid hp
        have HN1 := Lib.hid (runNum_any 0 9999999999999 13 (by omega) (by omega) (by omega) (by omega) (by omega) (by omega) (by show (9999999999999 : Int) < _; decide) s (by omega) u hu wr (grown_cell HG.out HV.out.1) HV.out.2 HP1)
        have c0 : wr.cell? ⟨X, 0, none⟩ = some (.int .i64 2) := mblock_cell HX.out 0 _ rfl
        have c1 : wr.cell? ⟨X, 1, none⟩ = some (.string ⟨#[]⟩) := mblock_cell HX.out 1 _ rfl
        have c2 : wr.cell? ⟨X, 2, none⟩ = some (.int .i64 0) := mblock_cell HX.out 2 _ rfl
        have c3 : wr.cell? ⟨X, 3, none⟩ = some (.int .i64 9999999999999) := mblock_cell HX.out 3 _ rfl
        have c4 : wr.cell? ⟨X, 4, none⟩ = some (.int .i64 13) := mblock_cell HX.out 4 _ rfl
        clear hp
        go_wp2_with fail
        refine HN1.out.mono ?_; rintro e2 w2 ⟨rfl, hg2⟩
        have HX2 : Hid (w2.heap[X]? = some (.cells #[.int .i64 2, .string ⟨#[]⟩, .int .i64 0, .int .i64 9999999999999, .int .i64 13] 57 (0, 0))) := (hg2.block X (lt_of_block HX.out) (fun e => by cases e)).trans HX.out
        have HG2 := Lib.hid (grown_trans HG.out hg2)
        have HO2 := Lib.hid (HO.out.keep hg2)
        clear hg2 HO HX HG HN1 c0 c1 c2 c3 c4
        cases ok with
        | false =>
          have hc0 : c = 0 := by have := numV_no (R := rem s u) (least := 0) (most := 9999999999999) (by rw [HP1.out]); rw [HP1.out] at this; exact this
          subst hc0
          have hr := HR.out
          rw [at_no H40.out HNE.out HI.out (one_no (by rw [HP1.out]))] at hr
          simp only [Prod.mk.injEq] at hr
          obtain ⟨rfl, rfl, rfl⟩ := hr
          clear HR HI HP1
          as_aux_lemma =>
            go_wp2_with fail
            go_ret3
            exact ⟨⟨_, rfl, SpOwn.nil _ _⟩, HG2.out⟩
        | true =>
          have hc1 : 1 ≤ c := by have := numV_posS (R := rem s u) (by rw [HP1.out]); rw [HP1.out] at this; exact this.1
          obtain ⟨q, hq⟩ : ∃ q, u + c = q := ⟨_, rfl⟩
          rw [hq] at hle
          have HQ := Lib.hid hq
          simp only [hq]
          clear hq
          have hq0 : (0 : Int) ≤ (q : Int) := by omega
          by_cases hlt : q < s.size
          · have hqi : (q : Int) < (s.size : Int) := by omega
            obtain ⟨y, hy⟩ : ∃ y, s[q].toNat = y := ⟨_, rfl⟩
            by_cases hd : y = 45
            · have hy2 : ((y : Int) == 45) = true := by simp; omega
              have HW : Hid ((wordV [45] ((rem s u).drop c)).1 = true) := by
                show _ = _
                rw [rem_drop, HQ.out, word_dash hlt, if_pos (hy.trans hd)]
              have c0 : w2.cell? ⟨X, 0, none⟩ = some (.int .i64 2) := mblock_cell HX2.out 0 _ rfl
              have c1 : w2.cell? ⟨X, 1, none⟩ = some (.string ⟨#[]⟩) := mblock_cell HX2.out 1 _ rfl
              have c2 : w2.cell? ⟨X, 2, none⟩ = some (.int .i64 0) := mblock_cell HX2.out 2 _ rfl
              have c3 : w2.cell? ⟨X, 3, none⟩ = some (.int .i64 9999999999999) := mblock_cell HX2.out 3 _ rfl
              have c4 : w2.cell? ⟨X, 4, none⟩ = some (.int .i64 13) := mblock_cell HX2.out 4 _ rfl
              obtain ⟨b, ok2, d, hp2⟩ : ∃ b ok2 d, numV 0 9999999999999 (rem s (q + 1)) = ⟨b, ok2, d⟩ := ⟨_, _, _, rfl⟩
              have hle2 : q + 1 + d ≤ s.size := by have := numV_le 0 9999999999999 (rem s (q + 1)); rw [hp2, rem_len] at this; simp only at this; omega
              have HP2 := Lib.hid hp2
              have HN2 := Lib.hid (runNum_any 0 9999999999999 13 (by omega) (by omega) (by omega) (by omega) (by omega) (by omega) (by show (9999999999999 : Int) < _; decide) s (by omega) (q + 1) (by omega) w2 (grown_cell HG2.out HV.out.1) HV.out.2 HP2)
              clear hp2
              go_wp2_with fail
              refine HN2.out.mono ?_; rintro e3 w3 ⟨rfl, hg3⟩
              have HX3 : Hid (w3.heap[X]? = some (.cells #[.int .i64 2, .string ⟨#[]⟩, .int .i64 0, .int .i64 9999999999999, .int .i64 13] 57 (0, 0))) := (hg3.block X (lt_of_block HX2.out) (fun e => by cases e)).trans HX2.out
              have HG3 := Lib.hid (grown_trans HG2.out hg3)
              have HO3 := Lib.hid (HO2.out.keep hg3)
              clear hg3 HO2 HX2 HG2 HN2 c0 c1 c2 c3 c4
              have HX2 := HX3; have HG2 := HG3
              clear HX3 HG3
              have HP3 : Hid (numV 0 9999999999999 ((rem s u).drop (c + 1)) = ⟨b, ok2, d⟩) := by
                show _ = _
                rw [rem_drop, ← Nat.add_assoc, HQ.out]; exact HP2.out
              cases ok2 with
              | false =>
                have hd0 : d = 0 := by have := numV_no (R := rem s (q + 1)) (least := 0) (most := 9999999999999) (by rw [HP2.out]); rw [HP2.out] at this; exact this
                subst hd0
                have hr := HR.out
                rw [at_halfQ (q := q + 1 + 0) H40.out HI.out (one_half HP1.out HW.out (by rw [HP3.out])) (by have := HQ.out; omega)] at hr
                simp only [Prod.mk.injEq] at hr
                obtain ⟨rfl, rfl, rfl⟩ := hr
                clear HR HI HP1 HP2 HP3
                as_aux_lemma =>
                  go_wp2_with fail
                  go_ret3
                  exact ⟨⟨_, rfl, SpOwn.nil _ _⟩, HG2.out⟩
              | true =>
                have HONE := Lib.hid (one_two HP1.out HW.out HP3.out)
                have HUC : Hid (u + (c + 1 + d) = q + 1 + d) := by have := HQ.out; show _ = _; omega
                obtain ⟨q2, hq2⟩ : ∃ q2, q + 1 + d = q2 := ⟨_, rfl⟩
                rw [hq2] at hle2 HUC
                simp only [hq2]
                clear hq2 hqi hy2 hy hd HW HP1 HP2 HP3 hq0 HQ
                have hq0 : (0 : Int) ≤ (q2 : Int) := by omega
                by_cases he : q2 = s.size
                · subst he
                  have HR2 : Hid (chkR (acc ++ [⟨a, b⟩]) = (l, at_, e)) := by
                    show _ = _
                    rw [← at_end H40.out HI.out HONE.out HUC.out]; exact HR.out
                  have HIN : Hid (InR (acc ++ [⟨a, b⟩])) := inR_more HI.out.2.2.2.2 (one_bdS HONE.out).2
                  have HLL : Hid ((acc ++ [(⟨a, b⟩ : SpV)]).length ≤ 40001) := by
                    have := HI.out.2.2.1
                    show _ ≤ _
                    simp only [List.length_append, List.length_cons, List.length_nil]; omega
                  obtain ⟨L, hL⟩ : ∃ L, acc ++ [(⟨a, b⟩ : SpV)] = L := ⟨_, rfl⟩
                  rw [hL] at HR2 HIN HLL
                  have HHL := Lib.hid hL
                  clear hL HR
                  unfold chkR at HR2
                  as_aux_lemma =>
                    have HL := Lib.hid HO3.out.lt
                    have hi := HI0.out; have hz0 := HZ0.out; have hz1 := HZ1.out; have hz2 := HZ2.out
                    have hac : acc.length ≤ 100000 := by have := HI.out.2.2.1; omega
                    go_wp2_with (at_builtin; refine wpList_append_own _ rfl _ _ 22 rfl (X + 1) 37 i0 (.agg #[.int .i64 0, .int .i64 0]) 2 16 Tryd.underlying22 hi hz0 hz1 hz2 rfl ?xe1 _ acc.length _ rfl (HO3.out.alloc _) ⟨w3.heap.size, 0, none⟩ 1 1 [.int .i64 a, .int .i64 b] rfl rfl ?xe6 ?xe2 ?xe3 ?xe4 ?xe5 ?xe7; (case xe1 => decide); (case xe2 => simp [Value.oneCell']); (case xe3 => unfold maxLen; omega); (case xe4 => omega); (case xe5 => have := lt_of_block HX2.out; simp; omega); (case xe6 => exact World.news_of_block (cs := #[.int .i64 a, .int .i64 b]) (t := 37) (fr := (0, 0)) (mheap_new w3 _)); intro v' wl hown' hgrow' _; have HN : Hid (SpOwn (X + 1) wl v' L) := (by have q0 : SpOwn (X + 1) wl v' (acc ++ [⟨a, b⟩]) := SpOwn.more hown'; rw [HHL.out] at q0; exact q0); have HGL := Lib.hid (grown_anyS (grown_trans HG2.out (World.grownBy_alloc w3 (.cells #[.int .i64 a, .int .i64 b] 37) none)) hgrow' (fun r e => by have := (HL.out r e).1; have := HXL.out; omega)); have HX9 : Hid (wl.heap[X]? = some (.cells #[.int .i64 2, .string ⟨#[]⟩, .int .i64 0, .int .i64 9999999999999, .int .i64 13] 57 (0, 0))) := (hgrow'.block X (by have := lt_of_block HX2.out; simp; omega) (fun e => by have := (HL.out X e.symm).1; omega)).trans ((Below.heap_alloc _ _ _ (lt_of_block HX2.out)).trans HX2.out); clear hown' hgrow' hi hz0 hz1 hz2; have HOL : Hid (SpOwn w.heap.size wl v' L) := Lib.hid (HN.out.low (by have := HXL.out; omega)); obtain ⟨lo, lc, rfl, hlr⟩ := HOL.out.rows; have HLR := Lib.hid hlr; clear hlr)
                    clear HX9 HX2 HO3 HL HN HHL HI HONE
                    have hlI : (L.length : Int) ≤ 1000000 := by have := HLL.out; omega
                    have HLC : Hid (L.length ≤ lc) := by
                      obtain ⟨po, pc, e, hle, _, _⟩ := own_rows spCs_len (show wl.ownsRow w.heap.size 37 2 (.slice lo L.length lc) L.length (L.flatMap spCs) from HOL.out)
                      simp only [Value.slice.injEq] at e
                      show _ ≤ _; omega
                    go_loopw [79] (fun iv wr => (∃ k : Nat, k ≤ L.length ∧ iv = .int .i64 k ∧ Hid (L.any outB = (L.drop k).any outR)) ∧ Hid (wl.grownBy wr none)) (fun iv _ => L.length - (intOf iv).toNat)
                    case atStart => exact ⟨⟨0, Nat.zero_le _, rfl, by rw [List.drop_zero]; exact (any_outR HIN.out).symm⟩, World.grownBy.refl _ _⟩
                    case round =>
                      obtain ⟨⟨k, hk, rfl, hany⟩, hg⟩ := hrel
                      by_cases hlt : k < L.length
                      · obtain ⟨b1, o1, rfl, q1⟩ := sp_at (HLR.out.grown hg.out) (by omega)
                        obtain ⟨x0, x1⟩ := q1 k hlt
                        have hdd := hany.out
                        rw [List.drop_eq_getElem_cons hlt, List.any_cons] at hdd
                        generalize L[k] = x at *
                        obtain ⟨xf, xt⟩ := x
                        simp only at x0 x1
                        have HG := Lib.hid (grown_trans hg.out (World.grownBy_alloc wr (.cells #[.int .i64 xf, .int .i64 xt] 37) none))
                        clear q1 hany hg
                        by_cases ho : 1000000000000 < xf
                        · have HR9 : Hid (([], 0, 9) = (l, at_, e)) := by
                            show _ = _
                            rw [← HR2.out, hdd]; unfold outR; rw [decide_eq_true ho]; rfl
                          have hr := HR9.out
                          simp only [Prod.mk.injEq] at hr
                          obtain ⟨rfl, rfl, rfl⟩ := hr
                          clear hdd HR9 HR2
                          as_aux_lemma =>
                            go_wp2_with fail
                            go_ret3
                            exact ⟨⟨_, rfl, SpOwn.nil _ _⟩, grown_trans HGL.out HG.out⟩
                        · by_cases ho2 : 1000000000000 < xt
                          · have HR9 : Hid (([], 0, 9) = (l, at_, e)) := by
                              show _ = _
                              rw [← HR2.out, hdd]; unfold outR; rw [decide_eq_true ho2]; simp
                            have hr := HR9.out
                            simp only [Prod.mk.injEq] at hr
                            obtain ⟨rfl, rfl, rfl⟩ := hr
                            clear hdd HR9 HR2
                            as_aux_lemma =>
                              go_wp2_with fail
                              go_ret3
                              exact ⟨⟨_, rfl, SpOwn.nil _ _⟩, grown_trans HGL.out HG.out⟩
                          · have HD : Hid (L.any outB = (L.drop (k + 1)).any outR) := by
                              show _ = _
                              rw [hdd]; unfold outR; rw [decide_eq_false ho, decide_eq_false ho2]; rfl
                            clear hdd
                            as_aux_lemma =>
                              go_wp2_with fail
                              go_roundw
                              case rel => exact ⟨⟨k + 1, by omega, by go_num, HD.out⟩, HG.out⟩
                              case measure => simp [intOf]; omega
                      · have HNO : Hid (L.any outB = false) := by
                          show _ = _
                          rw [hany.out, List.drop_eq_nil_of_le (by omega)]; rfl
                        have HR3 : Hid ((if L.any revB = true then (([] : List SpV), (0 : Int), (10 : Int)) else if 1000 < (jnL (srtS L)).length then ([], 0, 3) else (jnL (srtS L), 0, 0)) = (l, at_, e)) := by
                          have q := HR2.out
                          rw [HNO.out, if_neg (by simp)] at q
                          exact q
                        have HG3 := Lib.hid hg.out
                        clear hany hg HR2
                        go_wp2_with fail
                        go_loopw [94] (fun iv wr => (∃ k : Nat, k ≤ L.length ∧ iv = .int .i64 k ∧ Hid (L.any revB = (L.drop k).any revB)) ∧ Hid (wl.grownBy wr none)) (fun iv _ => L.length - (intOf iv).toNat)
                        case atStart => exact ⟨⟨0, Nat.zero_le _, rfl, (by rw [List.drop_zero]; show _ = _; rfl)⟩, HG3.out⟩
                        case round =>
                          clear HG3
                          obtain ⟨⟨k2, hk2, rfl, hany⟩, hg⟩ := hrel
                          by_cases hlt2 : k2 < L.length
                          · obtain ⟨b1, o1, rfl, q1⟩ := sp_at (HLR.out.grown hg.out) (by omega)
                            obtain ⟨x0, x1⟩ := q1 k2 hlt2
                            have hdd := hany.out
                            rw [List.drop_eq_getElem_cons hlt2, List.any_cons] at hdd
                            generalize L[k2] = x at *
                            obtain ⟨xf, xt⟩ := x
                            simp only at x0 x1
                            have HG := Lib.hid (grown_trans hg.out (World.grownBy_alloc wr (.cells #[.int .i64 xf, .int .i64 xt] 37) none))
                            clear q1 hany hg
                            by_cases ho : xt < xf
                            · have HR9 : Hid (([], 0, 10) = (l, at_, e)) := by
                                show _ = _
                                rw [← HR3.out, hdd]; unfold revB; rw [decide_eq_true ho]; rfl
                              have hr := HR9.out
                              simp only [Prod.mk.injEq] at hr
                              obtain ⟨rfl, rfl, rfl⟩ := hr
                              clear hdd HR9 HR3
                              as_aux_lemma =>
                                go_wp2_with fail
                                go_ret3
                                exact ⟨⟨_, rfl, SpOwn.nil _ _⟩, grown_trans HGL.out HG.out⟩
                            · have HD : Hid (L.any revB = (L.drop (k2 + 1)).any revB) := by
                                show _ = _
                                rw [hdd]
                                have e0 : revB ⟨xf, xt⟩ = false := decide_eq_false ho
                                rw [e0]; rfl
                              clear hdd
                              as_aux_lemma =>
                                go_wp2_with fail
                                go_roundw
                                case rel => exact ⟨⟨k2 + 1, by omega, by go_num, HD.out⟩, HG.out⟩
                                case measure => simp [intOf]; omega
                          · have HNR : Hid (L.any revB = false) := by
                              show _ = _
                              rw [hany.out, List.drop_eq_nil_of_le (by omega)]; rfl
                            have HR4 : Hid ((if 1000 < (jnL (srtS L)).length then (([] : List SpV), (0 : Int), (3 : Int)) else (jnL (srtS L), 0, 0)) = (l, at_, e)) := by
                              have q := HR3.out
                              rw [HNR.out, if_neg (by simp)] at q
                              exact q
                            have HIB : Hid (InB L) := fun x hx => by
                              have a := List.any_eq_false.1 HNO.out x hx
                              have b := List.any_eq_false.1 HNR.out x hx
                              unfold outB at a
                              unfold revB at b
                              simp only [Bool.or_eq_true, Bool.not_eq_true', decide_eq_false_iff_not, decide_eq_true_eq, not_or, Classical.not_not] at a b
                              omega
                            have HG4 := Lib.hid hg.out
                            have HLI := Lib.hid (inOrder_is L.length lo lc L (Nat.le_refl _) (by have := HLL.out; omega) HLC.out wr (HLR.out.grown hg.out))
                            clear hany hg HR3 HNO HNR HLR HOL
                            go_wp2_with fail
                            refine HLI.out.mono ?_
                            rintro x w5 ⟨⟨po, pc, S, rfl, hcs, hrs, hps, hss⟩, hg5⟩
                            have HG5 := Lib.hid (grown_trans HG4.out hg5)
                            have HRS := Lib.hid hrs
                            have HIS : Hid (InB S) := fun x hx => HIB.out x (hps.mem_iff.1 hx)
                            have HPW := Lib.hid hss
                            have HJ := Lib.hid (jn_same (fun x hx => (HIB.out x hx).2.1) hps hss)
                            have hSl : S.length ≤ 100000 := by have := hps.length_eq; have := HLL.out; omega
                            have HAB : Hid (∀ a, po = some a → S ≠ [] → a.block < w5.heap.size) := fun a e hne => by
                              subst e
                              obtain ⟨g, o, e2, hc⟩ := sp_at hrs (List.length_pos_iff.2 hne)
                              cases e2
                              exact World.block_lt_of_cell? w5 _ (hc 0 (List.length_pos_iff.2 hne)).1
                            clear hcs hrs hps hss hg5 HLI HG4 HIB HIN
                            go_wp2_with fail
                            go_loopw [16, 107] (fun sv iv wr => (∃ (k : Nat) (acc : List SpV) (u : Value), k ≤ S.length ∧ iv = .int .i64 k ∧ u = sv ∧ Hid (acc = jnL (S.take k)) ∧ Hid (SpOwn w5.heap.size wr u acc)) ∧ Hid (w5.grownBy wr none)) (fun _ iv _ => S.length - (intOf iv).toNat)
                            case atStart => exact ⟨⟨0, [], _, Nat.zero_le _, rfl, rfl, rfl, SpOwn.nil _ _⟩, World.grownBy.refl _ _⟩
                            case round =>
                              obtain ⟨⟨k3, acc, u, hk3, rfl, rfl, hacc, ho⟩, hg⟩ := hrel
                              by_cases hlt3 : k3 < S.length
                              · obtain ⟨b1, o1, rfl, q1⟩ := sp_at (HRS.out.grown hg.out) (by omega)
                                obtain ⟨x0, x1⟩ := q1 k3 hlt3
                                have hx := HIS.out _ (List.getElem_mem hlt3)
                                have HNX := Lib.hid (take_jn hlt3)
                                have hjo := jn_ok (S.take k3).length (Nat.le_refl _) (HPW.out.sublist (List.take_sublist k3 S)) (fun x hx => (HIS.out x (List.mem_of_mem_take hx)).2.1)
                                rw [← hacc.out] at HNX hjo
                                have HBD : Hid (∀ y ∈ acc, 0 ≤ y.to_ ∧ y.to_ ≤ 1000000000000) := fun y hy => by
                                  obtain ⟨_, z, hz, e⟩ := hjo.2.2.1 y hy
                                  have := HIS.out z (List.mem_of_mem_take hz)
                                  omega
                                have hal : acc.length ≤ 100000 := by have := hjo.2.2.2; simp only [List.length_take] at this; omega
                                generalize S[k3] = x at *
                                obtain ⟨xf, xt⟩ := x
                                simp only at x0 x1 hx
                                clear q1 hjo hacc
                                obtain ⟨n, hn⟩ : ∃ n, acc.length = n := ⟨_, rfl⟩
                                have HLEN := Lib.hid hn
                                rw [hn] at hal
                                obtain ⟨ua, uc, rfl, hur⟩ := ho.out.rows
                                rw [hn] at ho ⊢
                                clear hur hn
                                by_cases h0 : n = 0
                                · subst h0
                                  have HJN : Hid (jnS acc ⟨xf, xt⟩ = acc ++ [⟨xf, xt⟩]) := by
                                    show _ = _
                                    unfold jnS; rw [HLEN.out, if_neg (by omega)]
                                  as_aux_lemma =>
                                    go_wp2_with fail
                                    go_quiet (fail)
                                    have G6 : Hid (wr.grownBy ((wr.alloc (.cells #[.int .i64 xf, .int .i64 xt] 37)).drewN nq) none) := grown_trans (World.grownBy_alloc wr _ none) (grown_drewN _ none nq)
                                    have z0 : ((wr.alloc (.cells #[.int .i64 xf, .int .i64 xt] 37)).drewN nq).cell? ⟨wr.heap.size, 0, none⟩ = some (.int .i64 xf) := mblock_cell (c := #[.int .i64 xf, .int .i64 xt]) (mheap_new wr _) 0 _ rfl
                                    have z1 : ((wr.alloc (.cells #[.int .i64 xf, .int .i64 xt] 37)).drewN nq).cell? ⟨wr.heap.size, 1, none⟩ = some (.int .i64 xt) := mblock_cell (c := #[.int .i64 xf, .int .i64 xt]) (mheap_new wr _) 1 _ rfl
                                    generalize ((wr.alloc (.cells #[.int .i64 xf, .int .i64 xt] 37)).drewN nq) = W6 at *
                                    have HG6 := Lib.hid (grown_trans hg.out G6.out)
                                    have HSZ6 := Lib.hid HG6.out.size
                                    have HO6 : Hid (W6.ownsRow w5.heap.size 37 2 (.slice ua 0 uc) 0 (acc.flatMap spCs)) := by
                                      have q : W6.ownsRow w5.heap.size 37 2 (.slice ua 0 uc) acc.length (acc.flatMap spCs) := ho.out.keep G6.out
                                      rw [HLEN.out] at q; exact q
                                    have hi := HI0.out; have hz0 := HZ0.out; have hz1 := HZ1.out; have hz2 := HZ2.out
                                    clear x0 x1 hg ho G6
                                    go_wp2_with (at_builtin; refine wpList_append_own _ rfl _ _ 22 rfl w5.heap.size 37 i0 (.agg #[.int .i64 0, .int .i64 0]) 2 16 Tryd.underlying22 hi hz0 hz1 hz2 rfl ?xa1 _ (0) _ rfl (HO6.out.alloc _) ⟨W6.heap.size, 0, none⟩ 1 1 [.int .i64 xf, .int .i64 xt] rfl rfl ?xa6 ?xa2 ?xa3 ?xa4 ?xa5 ?xa7; (case xa1 => decide); (case xa2 => simp [Value.oneCell']); (case xa3 => unfold maxLen; omega); (case xa4 => omega); (case xa5 => have := HSZ6.out; simp; omega); (case xa6 => exact World.news_of_block (cs := #[.int .i64 xf, .int .i64 xt]) (t := 37) (fr := (0, 0)) (mheap_new W6 _)); intro v' w3 hown' hgrow' _; have HN : Hid (SpOwn w5.heap.size w3 v' (acc ++ [⟨xf, xt⟩])) := SpOwn.more (by rw [HLEN.out]; exact hown'); have HG10 := Lib.hid (grown_anyS (grown_trans HG6.out (World.grownBy_alloc W6 (.cells #[.int .i64 xf, .int .i64 xt] 37) none)) hgrow' (fun r e => (HO6.out.lt r e).1)); clear hown' hgrow' hi hz0 hz1 hz2 z0 z1)
                                    go_wp2_with fail
                                    go_roundw
                                    case rel => exact ⟨⟨k3 + 1, _, v', by omega, by go_num, rfl, (by show _ = _; rw [HNX.out, HJN.out]), HN.out⟩, HG10.out⟩
                                    case measure => simp [intOf]; omega
                                · obtain ⟨m, rfl⟩ : ∃ m, n = m + 1 := ⟨n - 1, by omega⟩
                                  obtain ⟨gb, rfl⟩ : ∃ gb, ua = some ⟨gb, 0, none⟩ := by
                                    have q : wr.ownsRow w5.heap.size 37 2 (.slice ua (m + 1) uc) acc.length (acc.flatMap spCs) := ho.out
                                    rcases q.2 with ⟨e, q2⟩ | ⟨g', c', cur, e, _⟩
                                    · have := HLEN.out; omega
                                    · simp only [Value.slice.injEq] at e; exact ⟨g', e.1⟩
                                  have HO5 : Hid (wr.ownsRow w5.heap.size 37 2 (.slice (some ⟨gb, 0, none⟩) (m + 1) uc) (m + 1) (acc.flatMap spCs)) := by
                                    have q : wr.ownsRow w5.heap.size 37 2 (.slice (some ⟨gb, 0, none⟩) (m + 1) uc) acc.length (acc.flatMap spCs) := ho.out
                                    rw [HLEN.out] at q; exact q
                                  have hmL : m < acc.length := by have := HLEN.out; omega
                                  have hLm : acc[m]? = some acc[m] := List.getElem?_eq_getElem hmL
                                  have hlast : spLast acc = acc[m] := by unfold spLast; rw [HLEN.out, Nat.add_sub_cancel, List.getD_eq_getElem?_getD, hLm]; rfl
                                  have hbm := HBD.out _ (List.getElem_mem hmL)
                                  have e1 := own_cellK spCs_len HO5.out HLEN.out (show m < m + 1 by omega) hLm (c := 1) rfl
                                  obtain ⟨lt, hlt2⟩ : ∃ lt, acc[m].to_ = lt := ⟨_, rfl⟩
                                  rw [hlt2] at e1 hbm
                                  have HLT : Hid ((spLast acc).to_ = lt) := by show _ = _; rw [hlast]; exact hlt2
                                  have HFR : Hid (spLast acc = ⟨acc[m].fr, lt⟩) := by show _ = _; rw [hlast, ← hlt2]
                                  have rk1 : IntKind.i64.wrap (lt + 1) = lt + 1 := IntWalk.i64_in _ (by omega)
                                  have rm1 : IntKind.i64.wrap ((m : Int) + 1 - 1) = (m : Int) := by rw [show (m : Int) + 1 - 1 = (m : Int) by omega]; exact IntWalk.i64_in _ (by omega)
                                  have rm2 : IntKind.i64.wrap (m : Int) = (m : Int) := IntWalk.i64_in _ (by omega)
                                  have im0 : (0 : Int) ≤ (m : Int) := by omega
                                  have im1 : (m : Int) < (m : Int) + 1 := by omega
                                  have im2 : decide ((0 : Int) < (m : Int) + 1) = true := decide_eq_true (by omega)
                                  have ga := World.grownBy_alloc wr (.cells #[.int .i64 xf, .int .i64 xt] 37) none
                                  have e2 : (wr.alloc (.cells #[.int .i64 xf, .int .i64 xt] 37)).cell? ⟨gb, m * 2 + 1, none⟩ = some (.int .i64 lt) := ga.cell e1 (by simp)
                                  have HGB : Hid (w5.heap.size ≤ gb ∧ gb < wr.heap.size) := HO5.out.lt gb rfl
                                  have E1 := Lib.hid e1
                                  clear ga hlast hLm hlt2 h0
                                  by_cases hc : xf ≤ lt + 1
                                  · have hqc : decide (xf ≤ lt + 1) = true := decide_eq_true hc
                                    as_aux_lemma =>
                                      go_wp2_with fail
                                      go_quiet (fail)
                                      have G6 : Hid (wr.grownBy ((wr.alloc (.cells #[.int .i64 xf, .int .i64 xt] 37)).drewN nq) none) := grown_trans (World.grownBy_alloc wr _ none) (grown_drewN _ none nq)
                                      have z0 : ((wr.alloc (.cells #[.int .i64 xf, .int .i64 xt] 37)).drewN nq).cell? ⟨wr.heap.size, 0, none⟩ = some (.int .i64 xf) := mblock_cell (c := #[.int .i64 xf, .int .i64 xt]) (mheap_new wr _) 0 _ rfl
                                      have z1 : ((wr.alloc (.cells #[.int .i64 xf, .int .i64 xt] 37)).drewN nq).cell? ⟨wr.heap.size, 1, none⟩ = some (.int .i64 xt) := mblock_cell (c := #[.int .i64 xf, .int .i64 xt]) (mheap_new wr _) 1 _ rfl
                                      generalize ((wr.alloc (.cells #[.int .i64 xf, .int .i64 xt] 37)).drewN nq) = W6 at *
                                      have HG6 := Lib.hid (grown_trans hg.out G6.out)
                                      have HSZ6 := Lib.hid HG6.out.size
                                      have HO6 : Hid (W6.ownsRow w5.heap.size 37 2 (.slice (some ⟨gb, 0, none⟩) (m + 1) uc) (m + 1) (acc.flatMap spCs)) := keptR HO5.out G6.out
                                      have f6 : W6.cell? ⟨gb, m * 2 + 1, none⟩ = some (.int .i64 lt) := G6.out.cell E1.out (by simp)
                                      have fr6 : W6.frozen? ⟨gb, m * 2 + 1, none⟩ = false := own_freeK HO6.out (m * 2 + 1)
                                      clear x0 x1 e1 e2 hg
                                      go_wp2_with fail
                                      go_region
                                      have HN : Hid (SpOwn w5.heap.size (W6.setCell ⟨gb, m * 2 + 1, none⟩ (.int .i64 (max lt xt))).drew (.slice (some ⟨gb, 0, none⟩) (m + 1) uc) (jnS acc ⟨xf, xt⟩)) := by
                                        have q := keptR (own_setV HO6.out (i := m * 2 + 1) (.int .i64 (max lt xt))) (grown_drewN (W6.setCell ⟨gb, m * 2 + 1, none⟩ (.int .i64 (max lt xt))) none 1)
                                        have e : jnS acc ⟨xf, xt⟩ = acc.set m ⟨acc[m].fr, max lt xt⟩ := by
                                          unfold jnS
                                          rw [if_pos ⟨by omega, by rw [HLT.out]; exact hc⟩, HFR.out, HLEN.out]; rfl
                                        rw [← sp_set acc m hmL] at q
                                        show World.ownsRow _ _ _ _ _ _ _
                                        rw [e, List.length_set, HLEN.out]; exact q
                                      have GD : World.grownBy (W6.setCell ⟨gb, m * 2 + 1, none⟩ (.int .i64 (max lt xt))) (W6.setCell ⟨gb, m * 2 + 1, none⟩ (.int .i64 (max lt xt))).drew none := grown_drewN _ none 1
                                      have HG7 := Lib.hid (grown_trans (grown_anyS HG6.out (grown_set W6 gb (m * 2 + 1) (.int .i64 (max lt xt))) (fun k e => by cases e; exact HGB.out.1)) GD)
                                      clear f6 fr6 z0 z1 GD
                                      generalize (W6.setCell ⟨gb, m * 2 + 1, none⟩ (.int .i64 (max lt xt))).drew = W7 at *
                                      go_wp2_with fail
                                      go_roundw
                                      case rel => exact ⟨⟨k3 + 1, _, _, by omega, by go_num, rfl, HNX.out.symm, HN.out⟩, HG7.out⟩
                                      case measure => simp [intOf]; omega
                                  · have hqc : decide (xf ≤ lt + 1) = false := decide_eq_false hc
                                    have HJN : Hid (jnS acc ⟨xf, xt⟩ = acc ++ [⟨xf, xt⟩]) := by
                                      show _ = _
                                      unfold jnS
                                      rw [if_neg (fun h => by have := h.2; rw [HLT.out] at this; exact hc this)]
                                    as_aux_lemma =>
                                      go_wp2_with fail
                                      go_quiet (fail)
                                      have G6 : Hid (wr.grownBy ((wr.alloc (.cells #[.int .i64 xf, .int .i64 xt] 37)).drewN nq) none) := grown_trans (World.grownBy_alloc wr _ none) (grown_drewN _ none nq)
                                      have z0 : ((wr.alloc (.cells #[.int .i64 xf, .int .i64 xt] 37)).drewN nq).cell? ⟨wr.heap.size, 0, none⟩ = some (.int .i64 xf) := mblock_cell (c := #[.int .i64 xf, .int .i64 xt]) (mheap_new wr _) 0 _ rfl
                                      have z1 : ((wr.alloc (.cells #[.int .i64 xf, .int .i64 xt] 37)).drewN nq).cell? ⟨wr.heap.size, 1, none⟩ = some (.int .i64 xt) := mblock_cell (c := #[.int .i64 xf, .int .i64 xt]) (mheap_new wr _) 1 _ rfl
                                      generalize ((wr.alloc (.cells #[.int .i64 xf, .int .i64 xt] 37)).drewN nq) = W6 at *
                                      have HG6 := Lib.hid (grown_trans hg.out G6.out)
                                      have HSZ6 := Lib.hid HG6.out.size
                                      have HO6 : Hid (W6.ownsRow w5.heap.size 37 2 (.slice (some ⟨gb, 0, none⟩) (m + 1) uc) (m + 1) (acc.flatMap spCs)) := keptR HO5.out G6.out
                                      have hi := HI0.out; have hz0 := HZ0.out; have hz1 := HZ1.out; have hz2 := HZ2.out
                                      clear x0 x1 e1 e2 hg ho G6
                                      go_wp2_with (at_builtin; refine wpList_append_own _ rfl _ _ 22 rfl w5.heap.size 37 i0 (.agg #[.int .i64 0, .int .i64 0]) 2 16 Tryd.underlying22 hi hz0 hz1 hz2 rfl ?xq1 _ (m + 1) _ rfl (HO6.out.alloc _) ⟨W6.heap.size, 0, none⟩ 1 1 [.int .i64 xf, .int .i64 xt] rfl rfl ?xq6 ?xq2 ?xq3 ?xq4 ?xq5 ?xq7; (case xq1 => decide); (case xq2 => simp [Value.oneCell']); (case xq3 => unfold maxLen; omega); (case xq4 => omega); (case xq5 => have := HSZ6.out; simp; omega); (case xq6 => exact World.news_of_block (cs := #[.int .i64 xf, .int .i64 xt]) (t := 37) (fr := (0, 0)) (mheap_new W6 _)); intro v' w3 hown' hgrow' _; have HN : Hid (SpOwn w5.heap.size w3 v' (acc ++ [⟨xf, xt⟩])) := SpOwn.more (by rw [HLEN.out]; exact hown'); have HG10 := Lib.hid (grown_anyS (grown_trans HG6.out (World.grownBy_alloc W6 (.cells #[.int .i64 xf, .int .i64 xt] 37) none)) hgrow' (fun r e => (HO6.out.lt r e).1)); clear hown' hgrow' hi hz0 hz1 hz2 z0 z1)
                                      go_wp2_with fail
                                      go_roundw
                                      case rel => exact ⟨⟨k3 + 1, _, v', by omega, by go_num, rfl, (by show _ = _; rw [HNX.out, HJN.out]), HN.out⟩, HG10.out⟩
                                      case measure => simp [intOf]; omega
                              · have HD : Hid (acc = jnL (srtS L)) := by
                                  have q := hacc.out
                                  rw [List.take_of_length_le (by omega)] at q
                                  show _ = _
                                  rw [q]; exact HJ.out
                                obtain ⟨ro, rc, rfl, _⟩ := ho.out.rows
                                have hr := HR4.out
                                rw [← HD.out] at hr
                                have HO9 := Lib.hid ho.out
                                clear hacc ho HR4 HD
                                by_cases c3 : 1000 < acc.length
                                · rw [if_pos c3] at hr
                                  simp only [Prod.mk.injEq] at hr
                                  obtain ⟨rfl, rfl, rfl⟩ := hr
                                  have c3i : (1000 : Int) < (acc.length : Int) := by omega
                                  as_aux_lemma =>
                                    go_wp2_with fail
                                    go_ret3
                                    exact ⟨⟨_, rfl, SpOwn.nil _ _⟩, grown_trans HGL.out (grown_trans HG5.out hg.out)⟩
                                · rw [if_neg c3] at hr
                                  simp only [Prod.mk.injEq] at hr
                                  obtain ⟨rfl, rfl, rfl⟩ := hr
                                  have c3i : ¬ (1000 : Int) < (acc.length : Int) := by omega
                                  as_aux_lemma =>
                                    go_wp2_with fail
                                    go_ret3
                                    exact ⟨⟨_, rfl, HO9.out.low (grown_trans HGL.out HG5.out).size⟩, grown_trans HGL.out (grown_trans HG5.out hg.out)⟩
                · have hlt2 : q2 < s.size := by omega
                  have hqi : (q2 : Int) < (s.size : Int) := by omega
                  obtain ⟨z, hz⟩ : ∃ z, s[q2].toNat = z := ⟨_, rfl⟩
                  clear he
                  have hqs : ((q2 : Int) == (s.size : Int)) = false := by simp; omega
                  have HY := Lib.hid hz
                  by_cases hcm : z = 44
                  · have hy4 : ((z : Int) == 44) = true := by simp; omega
                    have hy5 : ((z : Int) != 44) = false := by simp; omega
                    have HAT : Hid (AtW s (acc ++ [⟨a, b⟩]) (q2 + 1)) := at_moreQ HI.out HONE.out HUC.out hlt2 (HY.out.trans hcm)
                    have HUQ : Hid (u < q2 + 1) := by have := HUC.out; show _ < _; omega
                    clear HR HY
                    as_aux_lemma =>
                      have HL := Lib.hid HO3.out.lt
                      have hi := HI0.out; have hz0 := HZ0.out; have hz1 := HZ1.out; have hz2 := HZ2.out
                      have hac : acc.length ≤ 100000 := by have := HI.out.2.2.1; omega
                      go_wp2_with (at_builtin; refine wpList_append_own _ rfl _ _ 22 rfl (X + 1) 37 i0 (.agg #[.int .i64 0, .int .i64 0]) 2 16 Tryd.underlying22 hi hz0 hz1 hz2 rfl ?yc1 _ acc.length _ rfl (HO3.out.alloc _) ⟨w3.heap.size, 0, none⟩ 1 1 [.int .i64 a, .int .i64 b] rfl rfl ?yc6 ?yc2 ?yc3 ?yc4 ?yc5 ?yc7; (case yc1 => decide); (case yc2 => simp [Value.oneCell']); (case yc3 => unfold maxLen; omega); (case yc4 => omega); (case yc5 => have := lt_of_block HX2.out; simp; omega); (case yc6 => exact World.news_of_block (cs := #[.int .i64 a, .int .i64 b]) (t := 37) (fr := (0, 0)) (mheap_new w3 _)); intro v' wl hown' hgrow' _; have HN : Hid (SpOwn (X + 1) wl v' (acc ++ [⟨a, b⟩])) := SpOwn.more hown'; have HGL := Lib.hid (grown_anyS (grown_trans HG2.out (World.grownBy_alloc w3 (.cells #[.int .i64 a, .int .i64 b] 37) none)) hgrow' (fun r e => by have := (HL.out r e).1; have := HXL.out; omega)); have HX9 : Hid (wl.heap[X]? = some (.cells #[.int .i64 2, .string ⟨#[]⟩, .int .i64 0, .int .i64 9999999999999, .int .i64 13] 57 (0, 0))) := (hgrow'.block X (by have := lt_of_block HX2.out; simp; omega) (fun e => by have := (HL.out X e.symm).1; omega)).trans ((Below.heap_alloc _ _ _ (lt_of_block HX2.out)).trans HX2.out); clear hown' hgrow' hi hz0 hz1 hz2)
                      exact ⟨⟨⟨_, q2 + 1, _, rfl, by go_num, HAT, HN⟩, HX9, HGL⟩, by have := HUQ.out; simp [intOf]; omega⟩
                  · have hy4 : ((z : Int) == 44) = false := by simp; omega
                    have hy5 : ((z : Int) != 44) = true := by simp; omega
                    have hr := HR.out
                    rw [at_otherQ H40.out HI.out HONE.out HUC.out hlt2 (fun h => hcm (HY.out.symm.trans h))] at hr
                    simp only [Prod.mk.injEq] at hr
                    obtain ⟨rfl, rfl, rfl⟩ := hr
                    clear HR HY
                    as_aux_lemma =>
                      have HL := Lib.hid HO3.out.lt
                      have hi := HI0.out; have hz0 := HZ0.out; have hz1 := HZ1.out; have hz2 := HZ2.out
                      have hac : acc.length ≤ 100000 := by have := HI.out.2.2.1; omega
                      go_wp2_with (at_builtin; refine wpList_append_own _ rfl _ _ 22 rfl (X + 1) 37 i0 (.agg #[.int .i64 0, .int .i64 0]) 2 16 Tryd.underlying22 hi hz0 hz1 hz2 rfl ?yo1 _ acc.length _ rfl (HO3.out.alloc _) ⟨w3.heap.size, 0, none⟩ 1 1 [.int .i64 a, .int .i64 b] rfl rfl ?yo6 ?yo2 ?yo3 ?yo4 ?yo5 ?yo7; (case yo1 => decide); (case yo2 => simp [Value.oneCell']); (case yo3 => unfold maxLen; omega); (case yo4 => omega); (case yo5 => have := lt_of_block HX2.out; simp; omega); (case yo6 => exact World.news_of_block (cs := #[.int .i64 a, .int .i64 b]) (t := 37) (fr := (0, 0)) (mheap_new w3 _)); intro v' wl hown' hgrow' _; have HN : Hid (SpOwn (X + 1) wl v' (acc ++ [⟨a, b⟩])) := SpOwn.more hown'; have HGL := Lib.hid (grown_anyS (grown_trans HG2.out (World.grownBy_alloc w3 (.cells #[.int .i64 a, .int .i64 b] 37) none)) hgrow' (fun r e => by have := (HL.out r e).1; have := HXL.out; omega)); have HX9 : Hid (wl.heap[X]? = some (.cells #[.int .i64 2, .string ⟨#[]⟩, .int .i64 0, .int .i64 9999999999999, .int .i64 13] 57 (0, 0))) := (hgrow'.block X (by have := lt_of_block HX2.out; simp; omega) (fun e => by have := (HL.out X e.symm).1; omega)).trans ((Below.heap_alloc _ _ _ (lt_of_block HX2.out)).trans HX2.out); clear hown' hgrow' hi hz0 hz1 hz2)
                      go_ret3
                      exact ⟨⟨_, rfl, SpOwn.nil _ _⟩, HGL.out⟩
            · have hy2 : ((y : Int) == 45) = false := by simp; omega
              have HO3 := HO2
              have HONE : Hid (oneV (rem s u) = (true, c, ⟨a, a⟩)) := one_one HP1.out (by rw [rem_drop, HQ.out, word_dash hlt, if_neg (fun h => hd (hy.symm.trans h))])
              clear HO2 HP1 hd
              have hqs : ((q : Int) == (s.size : Int)) = false := by simp; omega
              have HY := Lib.hid hy
              by_cases hcm : y = 44
              · have hy4 : ((y : Int) == 44) = true := by simp; omega
                have hy5 : ((y : Int) != 44) = false := by simp; omega
                have HAT : Hid (AtW s (acc ++ [⟨a, a⟩]) (q + 1)) := at_moreQ HI.out HONE.out HQ.out hlt (HY.out.trans hcm)
                have HUQ : Hid (u < q + 1) := by have := HQ.out; show _ < _; omega
                clear HR HY
                as_aux_lemma =>
                  have HL := Lib.hid HO3.out.lt
                  have hi := HI0.out; have hz0 := HZ0.out; have hz1 := HZ1.out; have hz2 := HZ2.out
                  have hac : acc.length ≤ 100000 := by have := HI.out.2.2.1; omega
                  go_wp2_with (at_builtin; refine wpList_append_own _ rfl _ _ 22 rfl (X + 1) 37 i0 (.agg #[.int .i64 0, .int .i64 0]) 2 16 Tryd.underlying22 hi hz0 hz1 hz2 rfl ?mc1 _ acc.length _ rfl (HO3.out.alloc _) ⟨w2.heap.size, 0, none⟩ 1 1 [.int .i64 a, .int .i64 a] rfl rfl ?mc6 ?mc2 ?mc3 ?mc4 ?mc5 ?mc7; (case mc1 => decide); (case mc2 => simp [Value.oneCell']); (case mc3 => unfold maxLen; omega); (case mc4 => omega); (case mc5 => have := lt_of_block HX2.out; simp; omega); (case mc6 => exact World.news_of_block (cs := #[.int .i64 a, .int .i64 a]) (t := 37) (fr := (0, 0)) (mheap_new w2 _)); intro v' wl hown' hgrow' _; have HN : Hid (SpOwn (X + 1) wl v' (acc ++ [⟨a, a⟩])) := SpOwn.more hown'; have HGL := Lib.hid (grown_anyS (grown_trans HG2.out (World.grownBy_alloc w2 (.cells #[.int .i64 a, .int .i64 a] 37) none)) hgrow' (fun r e => by have := (HL.out r e).1; have := HXL.out; omega)); have HX9 : Hid (wl.heap[X]? = some (.cells #[.int .i64 2, .string ⟨#[]⟩, .int .i64 0, .int .i64 9999999999999, .int .i64 13] 57 (0, 0))) := (hgrow'.block X (by have := lt_of_block HX2.out; simp; omega) (fun e => by have := (HL.out X e.symm).1; omega)).trans ((Below.heap_alloc _ _ _ (lt_of_block HX2.out)).trans HX2.out); clear hown' hgrow' hi hz0 hz1 hz2)
                  exact ⟨⟨⟨_, q + 1, _, rfl, by go_num, HAT, HN⟩, HX9, HGL⟩, by have := HUQ.out; simp [intOf]; omega⟩
              · have hy4 : ((y : Int) == 44) = false := by simp; omega
                have hy5 : ((y : Int) != 44) = true := by simp; omega
                have hr := HR.out
                rw [at_otherQ H40.out HI.out HONE.out HQ.out hlt (fun h => hcm (HY.out.symm.trans h))] at hr
                simp only [Prod.mk.injEq] at hr
                obtain ⟨rfl, rfl, rfl⟩ := hr
                clear HR HY
                as_aux_lemma =>
                  have HL := Lib.hid HO3.out.lt
                  have hi := HI0.out; have hz0 := HZ0.out; have hz1 := HZ1.out; have hz2 := HZ2.out
                  have hac : acc.length ≤ 100000 := by have := HI.out.2.2.1; omega
                  go_wp2_with (at_builtin; refine wpList_append_own _ rfl _ _ 22 rfl (X + 1) 37 i0 (.agg #[.int .i64 0, .int .i64 0]) 2 16 Tryd.underlying22 hi hz0 hz1 hz2 rfl ?mo1 _ acc.length _ rfl (HO3.out.alloc _) ⟨w2.heap.size, 0, none⟩ 1 1 [.int .i64 a, .int .i64 a] rfl rfl ?mo6 ?mo2 ?mo3 ?mo4 ?mo5 ?mo7; (case mo1 => decide); (case mo2 => simp [Value.oneCell']); (case mo3 => unfold maxLen; omega); (case mo4 => omega); (case mo5 => have := lt_of_block HX2.out; simp; omega); (case mo6 => exact World.news_of_block (cs := #[.int .i64 a, .int .i64 a]) (t := 37) (fr := (0, 0)) (mheap_new w2 _)); intro v' wl hown' hgrow' _; have HN : Hid (SpOwn (X + 1) wl v' (acc ++ [⟨a, a⟩])) := SpOwn.more hown'; have HGL := Lib.hid (grown_anyS (grown_trans HG2.out (World.grownBy_alloc w2 (.cells #[.int .i64 a, .int .i64 a] 37) none)) hgrow' (fun r e => by have := (HL.out r e).1; have := HXL.out; omega)); have HX9 : Hid (wl.heap[X]? = some (.cells #[.int .i64 2, .string ⟨#[]⟩, .int .i64 0, .int .i64 9999999999999, .int .i64 13] 57 (0, 0))) := (hgrow'.block X (by have := lt_of_block HX2.out; simp; omega) (fun e => by have := (HL.out X e.symm).1; omega)).trans ((Below.heap_alloc _ _ _ (lt_of_block HX2.out)).trans HX2.out); clear hown' hgrow' hi hz0 hz1 hz2)
                  go_ret3
                  exact ⟨⟨_, rfl, SpOwn.nil _ _⟩, HGL.out⟩
          · have hqe : q = s.size := by omega
            subst hqe
            have HO3 := HO2
            have HONE : Hid (oneV (rem s u) = (true, c, ⟨a, a⟩)) := one_one HP1.out (by rw [rem_drop, HQ.out, word_end 45 (Nat.le_refl _)])
            clear HO2 HP1 hlt
            have HR2 : Hid (chkR (acc ++ [⟨a, a⟩]) = (l, at_, e)) := by
              show _ = _
              rw [← at_end H40.out HI.out HONE.out HQ.out]; exact HR.out
            have HIN : Hid (InR (acc ++ [⟨a, a⟩])) := inR_more HI.out.2.2.2.2 (one_bdS HONE.out).2
            have HLL : Hid ((acc ++ [(⟨a, a⟩ : SpV)]).length ≤ 40001) := by
              have := HI.out.2.2.1
              show _ ≤ _
              simp only [List.length_append, List.length_cons, List.length_nil]; omega
            obtain ⟨L, hL⟩ : ∃ L, acc ++ [(⟨a, a⟩ : SpV)] = L := ⟨_, rfl⟩
            rw [hL] at HR2 HIN HLL
            have HHL := Lib.hid hL
            clear hL HR
            unfold chkR at HR2
            as_aux_lemma =>
              have HL := Lib.hid HO3.out.lt
              have hi := HI0.out; have hz0 := HZ0.out; have hz1 := HZ1.out; have hz2 := HZ2.out
              have hac : acc.length ≤ 100000 := by have := HI.out.2.2.1; omega
              go_wp2_with (at_builtin; refine wpList_append_own _ rfl _ _ 22 rfl (X + 1) 37 i0 (.agg #[.int .i64 0, .int .i64 0]) 2 16 Tryd.underlying22 hi hz0 hz1 hz2 rfl ?ne1 _ acc.length _ rfl (HO3.out.alloc _) ⟨w2.heap.size, 0, none⟩ 1 1 [.int .i64 a, .int .i64 a] rfl rfl ?ne6 ?ne2 ?ne3 ?ne4 ?ne5 ?ne7; (case ne1 => decide); (case ne2 => simp [Value.oneCell']); (case ne3 => unfold maxLen; omega); (case ne4 => omega); (case ne5 => have := lt_of_block HX2.out; simp; omega); (case ne6 => exact World.news_of_block (cs := #[.int .i64 a, .int .i64 a]) (t := 37) (fr := (0, 0)) (mheap_new w2 _)); intro v' wl hown' hgrow' _; have HN : Hid (SpOwn (X + 1) wl v' L) := (by have q0 : SpOwn (X + 1) wl v' (acc ++ [⟨a, a⟩]) := SpOwn.more hown'; rw [HHL.out] at q0; exact q0); have HGL := Lib.hid (grown_anyS (grown_trans HG2.out (World.grownBy_alloc w2 (.cells #[.int .i64 a, .int .i64 a] 37) none)) hgrow' (fun r e => by have := (HL.out r e).1; have := HXL.out; omega)); have HX9 : Hid (wl.heap[X]? = some (.cells #[.int .i64 2, .string ⟨#[]⟩, .int .i64 0, .int .i64 9999999999999, .int .i64 13] 57 (0, 0))) := (hgrow'.block X (by have := lt_of_block HX2.out; simp; omega) (fun e => by have := (HL.out X e.symm).1; omega)).trans ((Below.heap_alloc _ _ _ (lt_of_block HX2.out)).trans HX2.out); clear hown' hgrow' hi hz0 hz1 hz2; have HOL : Hid (SpOwn w.heap.size wl v' L) := Lib.hid (HN.out.low (by have := HXL.out; omega)); obtain ⟨lo, lc, rfl, hlr⟩ := HOL.out.rows; have HLR := Lib.hid hlr; clear hlr)
              clear HX9 HX2 HO3 HL HN HHL HI HONE
              have hlI : (L.length : Int) ≤ 1000000 := by have := HLL.out; omega
              have HLC : Hid (L.length ≤ lc) := by
                obtain ⟨po, pc, e, hle, _, _⟩ := own_rows spCs_len (show wl.ownsRow w.heap.size 37 2 (.slice lo L.length lc) L.length (L.flatMap spCs) from HOL.out)
                simp only [Value.slice.injEq] at e
                show _ ≤ _; omega
              go_loopw [79] (fun iv wr => (∃ k : Nat, k ≤ L.length ∧ iv = .int .i64 k ∧ Hid (L.any outB = (L.drop k).any outR)) ∧ Hid (wl.grownBy wr none)) (fun iv _ => L.length - (intOf iv).toNat)
              case atStart => exact ⟨⟨0, Nat.zero_le _, rfl, by rw [List.drop_zero]; exact (any_outR HIN.out).symm⟩, World.grownBy.refl _ _⟩
              case round =>
                obtain ⟨⟨k, hk, rfl, hany⟩, hg⟩ := hrel
                by_cases hlt : k < L.length
                · obtain ⟨b1, o1, rfl, q1⟩ := sp_at (HLR.out.grown hg.out) (by omega)
                  obtain ⟨x0, x1⟩ := q1 k hlt
                  have hdd := hany.out
                  rw [List.drop_eq_getElem_cons hlt, List.any_cons] at hdd
                  generalize L[k] = x at *
                  obtain ⟨xf, xt⟩ := x
                  simp only at x0 x1
                  have HG := Lib.hid (grown_trans hg.out (World.grownBy_alloc wr (.cells #[.int .i64 xf, .int .i64 xt] 37) none))
                  clear q1 hany hg
                  by_cases ho : 1000000000000 < xf
                  · have HR9 : Hid (([], 0, 9) = (l, at_, e)) := by
                      show _ = _
                      rw [← HR2.out, hdd]; unfold outR; rw [decide_eq_true ho]; rfl
                    have hr := HR9.out
                    simp only [Prod.mk.injEq] at hr
                    obtain ⟨rfl, rfl, rfl⟩ := hr
                    clear hdd HR9 HR2
                    as_aux_lemma =>
                      go_wp2_with fail
                      go_ret3
                      exact ⟨⟨_, rfl, SpOwn.nil _ _⟩, grown_trans HGL.out HG.out⟩
                  · by_cases ho2 : 1000000000000 < xt
                    · have HR9 : Hid (([], 0, 9) = (l, at_, e)) := by
                        show _ = _
                        rw [← HR2.out, hdd]; unfold outR; rw [decide_eq_true ho2]; simp
                      have hr := HR9.out
                      simp only [Prod.mk.injEq] at hr
                      obtain ⟨rfl, rfl, rfl⟩ := hr
                      clear hdd HR9 HR2
                      as_aux_lemma =>
                        go_wp2_with fail
                        go_ret3
                        exact ⟨⟨_, rfl, SpOwn.nil _ _⟩, grown_trans HGL.out HG.out⟩
                    · have HD : Hid (L.any outB = (L.drop (k + 1)).any outR) := by
                        show _ = _
                        rw [hdd]; unfold outR; rw [decide_eq_false ho, decide_eq_false ho2]; rfl
                      clear hdd
                      as_aux_lemma =>
                        go_wp2_with fail
                        go_roundw
                        case rel => exact ⟨⟨k + 1, by omega, by go_num, HD.out⟩, HG.out⟩
                        case measure => simp [intOf]; omega
                · have HNO : Hid (L.any outB = false) := by
                    show _ = _
                    rw [hany.out, List.drop_eq_nil_of_le (by omega)]; rfl
                  have HR3 : Hid ((if L.any revB = true then (([] : List SpV), (0 : Int), (10 : Int)) else if 1000 < (jnL (srtS L)).length then ([], 0, 3) else (jnL (srtS L), 0, 0)) = (l, at_, e)) := by
                    have q := HR2.out
                    rw [HNO.out, if_neg (by simp)] at q
                    exact q
                  have HG3 := Lib.hid hg.out
                  clear hany hg HR2
                  go_wp2_with fail
                  go_loopw [94] (fun iv wr => (∃ k : Nat, k ≤ L.length ∧ iv = .int .i64 k ∧ Hid (L.any revB = (L.drop k).any revB)) ∧ Hid (wl.grownBy wr none)) (fun iv _ => L.length - (intOf iv).toNat)
                  case atStart => exact ⟨⟨0, Nat.zero_le _, rfl, (by rw [List.drop_zero]; show _ = _; rfl)⟩, HG3.out⟩
                  case round =>
                    clear HG3
                    obtain ⟨⟨k2, hk2, rfl, hany⟩, hg⟩ := hrel
                    by_cases hlt2 : k2 < L.length
                    · obtain ⟨b1, o1, rfl, q1⟩ := sp_at (HLR.out.grown hg.out) (by omega)
                      obtain ⟨x0, x1⟩ := q1 k2 hlt2
                      have hdd := hany.out
                      rw [List.drop_eq_getElem_cons hlt2, List.any_cons] at hdd
                      generalize L[k2] = x at *
                      obtain ⟨xf, xt⟩ := x
                      simp only at x0 x1
                      have HG := Lib.hid (grown_trans hg.out (World.grownBy_alloc wr (.cells #[.int .i64 xf, .int .i64 xt] 37) none))
                      clear q1 hany hg
                      by_cases ho : xt < xf
                      · have HR9 : Hid (([], 0, 10) = (l, at_, e)) := by
                          show _ = _
                          rw [← HR3.out, hdd]; unfold revB; rw [decide_eq_true ho]; rfl
                        have hr := HR9.out
                        simp only [Prod.mk.injEq] at hr
                        obtain ⟨rfl, rfl, rfl⟩ := hr
                        clear hdd HR9 HR3
                        as_aux_lemma =>
                          go_wp2_with fail
                          go_ret3
                          exact ⟨⟨_, rfl, SpOwn.nil _ _⟩, grown_trans HGL.out HG.out⟩
                      · have HD : Hid (L.any revB = (L.drop (k2 + 1)).any revB) := by
                          show _ = _
                          rw [hdd]
                          have e0 : revB ⟨xf, xt⟩ = false := decide_eq_false ho
                          rw [e0]; rfl
                        clear hdd
                        as_aux_lemma =>
                          go_wp2_with fail
                          go_roundw
                          case rel => exact ⟨⟨k2 + 1, by omega, by go_num, HD.out⟩, HG.out⟩
                          case measure => simp [intOf]; omega
                    · have HNR : Hid (L.any revB = false) := by
                        show _ = _
                        rw [hany.out, List.drop_eq_nil_of_le (by omega)]; rfl
                      have HR4 : Hid ((if 1000 < (jnL (srtS L)).length then (([] : List SpV), (0 : Int), (3 : Int)) else (jnL (srtS L), 0, 0)) = (l, at_, e)) := by
                        have q := HR3.out
                        rw [HNR.out, if_neg (by simp)] at q
                        exact q
                      have HIB : Hid (InB L) := fun x hx => by
                        have a := List.any_eq_false.1 HNO.out x hx
                        have b := List.any_eq_false.1 HNR.out x hx
                        unfold outB at a
                        unfold revB at b
                        simp only [Bool.or_eq_true, Bool.not_eq_true', decide_eq_false_iff_not, decide_eq_true_eq, not_or, Classical.not_not] at a b
                        omega
                      have HG4 := Lib.hid hg.out
                      have HLI := Lib.hid (inOrder_is L.length lo lc L (Nat.le_refl _) (by have := HLL.out; omega) HLC.out wr (HLR.out.grown hg.out))
                      clear hany hg HR3 HNO HNR HLR HOL
                      go_wp2_with fail
                      refine HLI.out.mono ?_
                      rintro x w5 ⟨⟨po, pc, S, rfl, hcs, hrs, hps, hss⟩, hg5⟩
                      have HG5 := Lib.hid (grown_trans HG4.out hg5)
                      have HRS := Lib.hid hrs
                      have HIS : Hid (InB S) := fun x hx => HIB.out x (hps.mem_iff.1 hx)
                      have HPW := Lib.hid hss
                      have HJ := Lib.hid (jn_same (fun x hx => (HIB.out x hx).2.1) hps hss)
                      have hSl : S.length ≤ 100000 := by have := hps.length_eq; have := HLL.out; omega
                      have HAB : Hid (∀ a, po = some a → S ≠ [] → a.block < w5.heap.size) := fun a e hne => by
                        subst e
                        obtain ⟨g, o, e2, hc⟩ := sp_at hrs (List.length_pos_iff.2 hne)
                        cases e2
                        exact World.block_lt_of_cell? w5 _ (hc 0 (List.length_pos_iff.2 hne)).1
                      clear hcs hrs hps hss hg5 HLI HG4 HIB HIN
                      go_wp2_with fail
                      go_loopw [16, 107] (fun sv iv wr => (∃ (k : Nat) (acc : List SpV) (u : Value), k ≤ S.length ∧ iv = .int .i64 k ∧ u = sv ∧ Hid (acc = jnL (S.take k)) ∧ Hid (SpOwn w5.heap.size wr u acc)) ∧ Hid (w5.grownBy wr none)) (fun _ iv _ => S.length - (intOf iv).toNat)
                      case atStart => exact ⟨⟨0, [], _, Nat.zero_le _, rfl, rfl, rfl, SpOwn.nil _ _⟩, World.grownBy.refl _ _⟩
                      case round =>
                        obtain ⟨⟨k3, acc, u, hk3, rfl, rfl, hacc, ho⟩, hg⟩ := hrel
                        by_cases hlt3 : k3 < S.length
                        · obtain ⟨b1, o1, rfl, q1⟩ := sp_at (HRS.out.grown hg.out) (by omega)
                          obtain ⟨x0, x1⟩ := q1 k3 hlt3
                          have hx := HIS.out _ (List.getElem_mem hlt3)
                          have HNX := Lib.hid (take_jn hlt3)
                          have hjo := jn_ok (S.take k3).length (Nat.le_refl _) (HPW.out.sublist (List.take_sublist k3 S)) (fun x hx => (HIS.out x (List.mem_of_mem_take hx)).2.1)
                          rw [← hacc.out] at HNX hjo
                          have HBD : Hid (∀ y ∈ acc, 0 ≤ y.to_ ∧ y.to_ ≤ 1000000000000) := fun y hy => by
                            obtain ⟨_, z, hz, e⟩ := hjo.2.2.1 y hy
                            have := HIS.out z (List.mem_of_mem_take hz)
                            omega
                          have hal : acc.length ≤ 100000 := by have := hjo.2.2.2; simp only [List.length_take] at this; omega
                          generalize S[k3] = x at *
                          obtain ⟨xf, xt⟩ := x
                          simp only at x0 x1 hx
                          clear q1 hjo hacc
                          obtain ⟨n, hn⟩ : ∃ n, acc.length = n := ⟨_, rfl⟩
                          have HLEN := Lib.hid hn
                          rw [hn] at hal
                          obtain ⟨ua, uc, rfl, hur⟩ := ho.out.rows
                          rw [hn] at ho ⊢
                          clear hur hn
                          by_cases h0 : n = 0
                          · subst h0
                            have HJN : Hid (jnS acc ⟨xf, xt⟩ = acc ++ [⟨xf, xt⟩]) := by
                              show _ = _
                              unfold jnS; rw [HLEN.out, if_neg (by omega)]
                            as_aux_lemma =>
                              go_wp2_with fail
                              go_quiet (fail)
                              have G6 : Hid (wr.grownBy ((wr.alloc (.cells #[.int .i64 xf, .int .i64 xt] 37)).drewN nq) none) := grown_trans (World.grownBy_alloc wr _ none) (grown_drewN _ none nq)
                              have z0 : ((wr.alloc (.cells #[.int .i64 xf, .int .i64 xt] 37)).drewN nq).cell? ⟨wr.heap.size, 0, none⟩ = some (.int .i64 xf) := mblock_cell (c := #[.int .i64 xf, .int .i64 xt]) (mheap_new wr _) 0 _ rfl
                              have z1 : ((wr.alloc (.cells #[.int .i64 xf, .int .i64 xt] 37)).drewN nq).cell? ⟨wr.heap.size, 1, none⟩ = some (.int .i64 xt) := mblock_cell (c := #[.int .i64 xf, .int .i64 xt]) (mheap_new wr _) 1 _ rfl
                              generalize ((wr.alloc (.cells #[.int .i64 xf, .int .i64 xt] 37)).drewN nq) = W6 at *
                              have HG6 := Lib.hid (grown_trans hg.out G6.out)
                              have HSZ6 := Lib.hid HG6.out.size
                              have HO6 : Hid (W6.ownsRow w5.heap.size 37 2 (.slice ua 0 uc) 0 (acc.flatMap spCs)) := by
                                have q : W6.ownsRow w5.heap.size 37 2 (.slice ua 0 uc) acc.length (acc.flatMap spCs) := ho.out.keep G6.out
                                rw [HLEN.out] at q; exact q
                              have hi := HI0.out; have hz0 := HZ0.out; have hz1 := HZ1.out; have hz2 := HZ2.out
                              clear x0 x1 hg ho G6
                              go_wp2_with (at_builtin; refine wpList_append_own _ rfl _ _ 22 rfl w5.heap.size 37 i0 (.agg #[.int .i64 0, .int .i64 0]) 2 16 Tryd.underlying22 hi hz0 hz1 hz2 rfl ?na1 _ (0) _ rfl (HO6.out.alloc _) ⟨W6.heap.size, 0, none⟩ 1 1 [.int .i64 xf, .int .i64 xt] rfl rfl ?na6 ?na2 ?na3 ?na4 ?na5 ?na7; (case na1 => decide); (case na2 => simp [Value.oneCell']); (case na3 => unfold maxLen; omega); (case na4 => omega); (case na5 => have := HSZ6.out; simp; omega); (case na6 => exact World.news_of_block (cs := #[.int .i64 xf, .int .i64 xt]) (t := 37) (fr := (0, 0)) (mheap_new W6 _)); intro v' w3 hown' hgrow' _; have HN : Hid (SpOwn w5.heap.size w3 v' (acc ++ [⟨xf, xt⟩])) := SpOwn.more (by rw [HLEN.out]; exact hown'); have HG10 := Lib.hid (grown_anyS (grown_trans HG6.out (World.grownBy_alloc W6 (.cells #[.int .i64 xf, .int .i64 xt] 37) none)) hgrow' (fun r e => (HO6.out.lt r e).1)); clear hown' hgrow' hi hz0 hz1 hz2 z0 z1)
                              go_wp2_with fail
                              go_roundw
                              case rel => exact ⟨⟨k3 + 1, _, v', by omega, by go_num, rfl, (by show _ = _; rw [HNX.out, HJN.out]), HN.out⟩, HG10.out⟩
                              case measure => simp [intOf]; omega
                          · obtain ⟨m, rfl⟩ : ∃ m, n = m + 1 := ⟨n - 1, by omega⟩
                            obtain ⟨gb, rfl⟩ : ∃ gb, ua = some ⟨gb, 0, none⟩ := by
                              have q : wr.ownsRow w5.heap.size 37 2 (.slice ua (m + 1) uc) acc.length (acc.flatMap spCs) := ho.out
                              rcases q.2 with ⟨e, q2⟩ | ⟨g', c', cur, e, _⟩
                              · have := HLEN.out; omega
                              · simp only [Value.slice.injEq] at e; exact ⟨g', e.1⟩
                            have HO5 : Hid (wr.ownsRow w5.heap.size 37 2 (.slice (some ⟨gb, 0, none⟩) (m + 1) uc) (m + 1) (acc.flatMap spCs)) := by
                              have q : wr.ownsRow w5.heap.size 37 2 (.slice (some ⟨gb, 0, none⟩) (m + 1) uc) acc.length (acc.flatMap spCs) := ho.out
                              rw [HLEN.out] at q; exact q
                            have hmL : m < acc.length := by have := HLEN.out; omega
                            have hLm : acc[m]? = some acc[m] := List.getElem?_eq_getElem hmL
                            have hlast : spLast acc = acc[m] := by unfold spLast; rw [HLEN.out, Nat.add_sub_cancel, List.getD_eq_getElem?_getD, hLm]; rfl
                            have hbm := HBD.out _ (List.getElem_mem hmL)
                            have e1 := own_cellK spCs_len HO5.out HLEN.out (show m < m + 1 by omega) hLm (c := 1) rfl
                            obtain ⟨lt, hlt2⟩ : ∃ lt, acc[m].to_ = lt := ⟨_, rfl⟩
                            rw [hlt2] at e1 hbm
                            have HLT : Hid ((spLast acc).to_ = lt) := by show _ = _; rw [hlast]; exact hlt2
                            have HFR : Hid (spLast acc = ⟨acc[m].fr, lt⟩) := by show _ = _; rw [hlast, ← hlt2]
                            have rk1 : IntKind.i64.wrap (lt + 1) = lt + 1 := IntWalk.i64_in _ (by omega)
                            have rm1 : IntKind.i64.wrap ((m : Int) + 1 - 1) = (m : Int) := by rw [show (m : Int) + 1 - 1 = (m : Int) by omega]; exact IntWalk.i64_in _ (by omega)
                            have rm2 : IntKind.i64.wrap (m : Int) = (m : Int) := IntWalk.i64_in _ (by omega)
                            have im0 : (0 : Int) ≤ (m : Int) := by omega
                            have im1 : (m : Int) < (m : Int) + 1 := by omega
                            have im2 : decide ((0 : Int) < (m : Int) + 1) = true := decide_eq_true (by omega)
                            have ga := World.grownBy_alloc wr (.cells #[.int .i64 xf, .int .i64 xt] 37) none
                            have e2 : (wr.alloc (.cells #[.int .i64 xf, .int .i64 xt] 37)).cell? ⟨gb, m * 2 + 1, none⟩ = some (.int .i64 lt) := ga.cell e1 (by simp)
                            have HGB : Hid (w5.heap.size ≤ gb ∧ gb < wr.heap.size) := HO5.out.lt gb rfl
                            have E1 := Lib.hid e1
                            clear ga hlast hLm hlt2 h0
                            by_cases hc : xf ≤ lt + 1
                            · have hqc : decide (xf ≤ lt + 1) = true := decide_eq_true hc
                              as_aux_lemma =>
                                go_wp2_with fail
                                go_quiet (fail)
                                have G6 : Hid (wr.grownBy ((wr.alloc (.cells #[.int .i64 xf, .int .i64 xt] 37)).drewN nq) none) := grown_trans (World.grownBy_alloc wr _ none) (grown_drewN _ none nq)
                                have z0 : ((wr.alloc (.cells #[.int .i64 xf, .int .i64 xt] 37)).drewN nq).cell? ⟨wr.heap.size, 0, none⟩ = some (.int .i64 xf) := mblock_cell (c := #[.int .i64 xf, .int .i64 xt]) (mheap_new wr _) 0 _ rfl
                                have z1 : ((wr.alloc (.cells #[.int .i64 xf, .int .i64 xt] 37)).drewN nq).cell? ⟨wr.heap.size, 1, none⟩ = some (.int .i64 xt) := mblock_cell (c := #[.int .i64 xf, .int .i64 xt]) (mheap_new wr _) 1 _ rfl
                                generalize ((wr.alloc (.cells #[.int .i64 xf, .int .i64 xt] 37)).drewN nq) = W6 at *
                                have HG6 := Lib.hid (grown_trans hg.out G6.out)
                                have HSZ6 := Lib.hid HG6.out.size
                                have HO6 : Hid (W6.ownsRow w5.heap.size 37 2 (.slice (some ⟨gb, 0, none⟩) (m + 1) uc) (m + 1) (acc.flatMap spCs)) := keptR HO5.out G6.out
                                have f6 : W6.cell? ⟨gb, m * 2 + 1, none⟩ = some (.int .i64 lt) := G6.out.cell E1.out (by simp)
                                have fr6 : W6.frozen? ⟨gb, m * 2 + 1, none⟩ = false := own_freeK HO6.out (m * 2 + 1)
                                clear x0 x1 e1 e2 hg
                                go_wp2_with fail
                                go_region
                                have HN : Hid (SpOwn w5.heap.size (W6.setCell ⟨gb, m * 2 + 1, none⟩ (.int .i64 (max lt xt))).drew (.slice (some ⟨gb, 0, none⟩) (m + 1) uc) (jnS acc ⟨xf, xt⟩)) := by
                                  have q := keptR (own_setV HO6.out (i := m * 2 + 1) (.int .i64 (max lt xt))) (grown_drewN (W6.setCell ⟨gb, m * 2 + 1, none⟩ (.int .i64 (max lt xt))) none 1)
                                  have e : jnS acc ⟨xf, xt⟩ = acc.set m ⟨acc[m].fr, max lt xt⟩ := by
                                    unfold jnS
                                    rw [if_pos ⟨by omega, by rw [HLT.out]; exact hc⟩, HFR.out, HLEN.out]; rfl
                                  rw [← sp_set acc m hmL] at q
                                  show World.ownsRow _ _ _ _ _ _ _
                                  rw [e, List.length_set, HLEN.out]; exact q
                                have GD : World.grownBy (W6.setCell ⟨gb, m * 2 + 1, none⟩ (.int .i64 (max lt xt))) (W6.setCell ⟨gb, m * 2 + 1, none⟩ (.int .i64 (max lt xt))).drew none := grown_drewN _ none 1
                                have HG7 := Lib.hid (grown_trans (grown_anyS HG6.out (grown_set W6 gb (m * 2 + 1) (.int .i64 (max lt xt))) (fun k e => by cases e; exact HGB.out.1)) GD)
                                clear f6 fr6 z0 z1 GD
                                generalize (W6.setCell ⟨gb, m * 2 + 1, none⟩ (.int .i64 (max lt xt))).drew = W7 at *
                                go_wp2_with fail
                                go_roundw
                                case rel => exact ⟨⟨k3 + 1, _, _, by omega, by go_num, rfl, HNX.out.symm, HN.out⟩, HG7.out⟩
                                case measure => simp [intOf]; omega
                            · have hqc : decide (xf ≤ lt + 1) = false := decide_eq_false hc
                              have HJN : Hid (jnS acc ⟨xf, xt⟩ = acc ++ [⟨xf, xt⟩]) := by
                                show _ = _
                                unfold jnS
                                rw [if_neg (fun h => by have := h.2; rw [HLT.out] at this; exact hc this)]
                              as_aux_lemma =>
                                go_wp2_with fail
                                go_quiet (fail)
                                have G6 : Hid (wr.grownBy ((wr.alloc (.cells #[.int .i64 xf, .int .i64 xt] 37)).drewN nq) none) := grown_trans (World.grownBy_alloc wr _ none) (grown_drewN _ none nq)
                                have z0 : ((wr.alloc (.cells #[.int .i64 xf, .int .i64 xt] 37)).drewN nq).cell? ⟨wr.heap.size, 0, none⟩ = some (.int .i64 xf) := mblock_cell (c := #[.int .i64 xf, .int .i64 xt]) (mheap_new wr _) 0 _ rfl
                                have z1 : ((wr.alloc (.cells #[.int .i64 xf, .int .i64 xt] 37)).drewN nq).cell? ⟨wr.heap.size, 1, none⟩ = some (.int .i64 xt) := mblock_cell (c := #[.int .i64 xf, .int .i64 xt]) (mheap_new wr _) 1 _ rfl
                                generalize ((wr.alloc (.cells #[.int .i64 xf, .int .i64 xt] 37)).drewN nq) = W6 at *
                                have HG6 := Lib.hid (grown_trans hg.out G6.out)
                                have HSZ6 := Lib.hid HG6.out.size
                                have HO6 : Hid (W6.ownsRow w5.heap.size 37 2 (.slice (some ⟨gb, 0, none⟩) (m + 1) uc) (m + 1) (acc.flatMap spCs)) := keptR HO5.out G6.out
                                have hi := HI0.out; have hz0 := HZ0.out; have hz1 := HZ1.out; have hz2 := HZ2.out
                                clear x0 x1 e1 e2 hg ho G6
                                go_wp2_with (at_builtin; refine wpList_append_own _ rfl _ _ 22 rfl w5.heap.size 37 i0 (.agg #[.int .i64 0, .int .i64 0]) 2 16 Tryd.underlying22 hi hz0 hz1 hz2 rfl ?nq1 _ (m + 1) _ rfl (HO6.out.alloc _) ⟨W6.heap.size, 0, none⟩ 1 1 [.int .i64 xf, .int .i64 xt] rfl rfl ?nq6 ?nq2 ?nq3 ?nq4 ?nq5 ?nq7; (case nq1 => decide); (case nq2 => simp [Value.oneCell']); (case nq3 => unfold maxLen; omega); (case nq4 => omega); (case nq5 => have := HSZ6.out; simp; omega); (case nq6 => exact World.news_of_block (cs := #[.int .i64 xf, .int .i64 xt]) (t := 37) (fr := (0, 0)) (mheap_new W6 _)); intro v' w3 hown' hgrow' _; have HN : Hid (SpOwn w5.heap.size w3 v' (acc ++ [⟨xf, xt⟩])) := SpOwn.more (by rw [HLEN.out]; exact hown'); have HG10 := Lib.hid (grown_anyS (grown_trans HG6.out (World.grownBy_alloc W6 (.cells #[.int .i64 xf, .int .i64 xt] 37) none)) hgrow' (fun r e => (HO6.out.lt r e).1)); clear hown' hgrow' hi hz0 hz1 hz2 z0 z1)
                                go_wp2_with fail
                                go_roundw
                                case rel => exact ⟨⟨k3 + 1, _, v', by omega, by go_num, rfl, (by show _ = _; rw [HNX.out, HJN.out]), HN.out⟩, HG10.out⟩
                                case measure => simp [intOf]; omega
                        · have HD : Hid (acc = jnL (srtS L)) := by
                            have q := hacc.out
                            rw [List.take_of_length_le (by omega)] at q
                            show _ = _
                            rw [q]; exact HJ.out
                          obtain ⟨ro, rc, rfl, _⟩ := ho.out.rows
                          have hr := HR4.out
                          rw [← HD.out] at hr
                          have HO9 := Lib.hid ho.out
                          clear hacc ho HR4 HD
                          by_cases c3 : 1000 < acc.length
                          · rw [if_pos c3] at hr
                            simp only [Prod.mk.injEq] at hr
                            obtain ⟨rfl, rfl, rfl⟩ := hr
                            have c3i : (1000 : Int) < (acc.length : Int) := by omega
                            as_aux_lemma =>
                              go_wp2_with fail
                              go_ret3
                              exact ⟨⟨_, rfl, SpOwn.nil _ _⟩, grown_trans HGL.out (grown_trans HG5.out hg.out)⟩
                          · rw [if_neg c3] at hr
                            simp only [Prod.mk.injEq] at hr
                            obtain ⟨rfl, rfl, rfl⟩ := hr
                            have c3i : ¬ (1000 : Int) < (acc.length : Int) := by omega
                            as_aux_lemma =>
                              go_wp2_with fail
                              go_ret3
                              exact ⟨⟨_, rfl, HO9.out.low (grown_trans HGL.out HG5.out).size⟩, grown_trans HGL.out (grown_trans HG5.out hg.out)⟩

end Go.Proofs.YtbacoopopokkfaaDoor
