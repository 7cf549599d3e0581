/- The contract of the reference's Level, for any activity and any width. -/
import Derived.Test.YtgkhhfojioepgaaTLevel
import Derived.Test.YtgkhhfojioepgaaTIns
namespace Go.Proofs.Ytgkhhfojioepgaa
open Go.RowKit
set_option linter.unusedSimpArgs false
set_option linter.unusedVariables false

attribute [local go_sem] Oper.semAt_some
theorem cinfo_intL : (Try.prog.info? 3).map (fun i => (i.zero, i.size, i.bytes)) = some (some (.int .i64 0), 1, 8) := by kernel_rfl

set_option maxRecDepth 100000 in
set_option maxHeartbeats 6400000 in
theorem rLevel_any (a : Act) (width : Int) (w : World) (ha : ActAt w a) (hsc : a.ss.length ≤ a.sc) {c : Act} {E : Int} (hE : Hid (levelO a width = (c, E))) :
    Calls Try.prog 35 #[a.val, .int .i64 width] w fun e w' => (∃ v, e = .returned (.tuple #[v, .int .i64 E]) ∧ ActNew w.heap.size w' v c) ∧ w.grownBy w' none := by
  obtain ⟨ce, hce⟩ : ∃ e, chkE a = e := ⟨_, rfl⟩
  have hv := hE.out
  unfold levelO at hv
  rw [hce] at hv
  have HCE := Lib.hid hce; have HA := Lib.hid ha
  by_cases d1 : ce = 0
  · rw [if_pos d1] at hv
    subst d1
    by_cases d2 : 0 ≤ width ∧ width ≤ 50
    · rw [if_pos d2] at hv
      simp only [Prod.mk.injEq] at hv
      obtain ⟨rfl, rfl⟩ := hv
      have ok := chk_ok hce
      have hl1 : (a.ss.length : Int) ≤ 20000 := ok.sl
      have hl2 : (a.ls.length : Int) ≤ 200 := ok.ll
      have hl3 : (a.ts.length : Int) ≤ 20 := ok.tl
      obtain ⟨wd, rfl⟩ : ∃ wd : Nat, width = (wd : Int) := ⟨width.toNat, by omega⟩
      rw [Int.toNat_natCast]
      obtain ⟨nm, sp, st, so, sc, ss, lo, lc, ls, to_, tc, ts⟩ := a
      simp only [Act.val] at *
      clear hE hce ha ok
      have M0 := Lib.hid (ClB.new w #[.string nm, .int .i64 sp, .int .i64 st, .slice so ss.length sc, .slice lo ls.length lc, .slice to_ ts.length tc] #[.string ⟨#[]⟩, .int .i64 0, .int .i64 0, .slice none 0 0, .slice none 0 0, .slice none 0 0])
      go_enter Try.func35, Try.ntmps35
      go_wp2_with fail
      refine (rcheck_any ⟨nm, sp, st, so, sc, ss, lo, lc, ls, to_, tc, ts⟩ _ (HA.out.grown M0.out.g) HCE).mono ?_; rintro e w1 ⟨rfl, hg1⟩
      have M1 := Lib.hid (M0.out.grown hg1)
      clear hg1
      go_wp2_with fail
      refine (rout_no _ _ _ d2.1 d2.2 _).mono ?_; rintro e w2 ⟨rfl, rfl⟩
      have u0 := block_cell M1.out.a 0 _ rfl
      have u1 := block_cell M1.out.a 1 _ rfl
      have u2 := block_cell M1.out.a 2 _ rfl
      have u3 := block_cell M1.out.a 3 _ rfl
      have u4 := block_cell M1.out.a 4 _ rfl
      have u5 := block_cell M1.out.a 5 _ rfl
      go_wp2_with fail
      refine (copied_own ⟨nm, sp, st, so, sc, ss, lo, lc, ls, to_, tc, ts⟩ (by show ss.length ≤ _; omega) (by show ls.length ≤ _; omega) (by show ts.length ≤ _; omega) _ (HA.out.grown M1.out.g)).mono ?_; rintro e w4 ⟨⟨vv, rfl, hvv⟩, hg4⟩
      obtain ⟨s1, k1, l1, j1, t1, i1, rfl, hat, hfar, ⟨b0, hb0, hrow⟩, sp1, sp2⟩ := hvv
      simp only at hat hfar hrow
      have HSZ : Hid (w.heap.size + 2 ≤ b0) := by have := M1.out.lt; show _ ≤ _; omega
      have HFZ : Hid (∀ p : Addr, s1 = some p ∨ l1 = some p ∨ t1 = some p → w.heap.size + 2 ≤ p.block) := fun p hp => by
        have := M1.out.lt
        rcases hp with h | h | h
        · have := hfar.s p h; omega
        · have := hfar.l p h; omega
        · have := hfar.t p h; omega
      have M2 := Lib.hid (M1.out.grown hg4)
      have HAT := Lib.hid hat; have SP1 := Lib.hid sp1; have SP2 := Lib.hid sp2; have HRW := Lib.hid hrow
      clear hg4 hat hfar hb0 hrow sp1 sp2 u0 u1 u2 u3 u4 u5 M1 M0
      go_upto_region 7 with (fail)
      obtain ⟨V5, hV⟩ : ∃ V, w4.alloc (.cells #[.string nm, .int .i64 sp, .int .i64 st, .slice s1 ss.length k1, .slice l1 ls.length j1, .slice t1 ts.length i1] 26) = V := ⟨_, rfl⟩
      have G5 : w4.grownBy V5 none := by rw [← hV]; exact World.grownBy_alloc _ _ _
      have BF0 : Hid (V5.heap[w4.heap.size]? = some (.cells #[.string nm, .int .i64 sp, .int .i64 st, .slice s1 ss.length k1, .slice l1 ls.length j1, .slice t1 ts.length i1] 26 (0, 0))) := by show _; rw [← hV]; exact heap_alloc_new _ _
      rw [hV]
      have M5 := Lib.hid (M2.out.grown G5)
      have H5 := Lib.hid (HAT.out.grown G5)
      have R5 : Hid (World.ownsRow V5 b0 28 7 (.slice s1 ss.length k1) ss.length (smpRw (lvA ss wd 0))) := HRW.out.kept G5 (by cases (Value.slice s1 ss.length k1).ownBlock <;> simp)
      have RB : Hid (∀ r, (Value.slice s1 ss.length k1).ownBlock = some r → w.heap.size + 2 ≤ r ∧ r ≠ w4.heap.size ∧ r < V5.heap.size) := fun r hr => by
        have q := HRW.out.lt r hr; have := HSZ.out; have := lt_of_block BF0.out
        exact ⟨by omega, by omega, by omega⟩
      clear hV G5 HRW HAT M2
      generalize w4.heap.size = fb at *
      obtain ⟨row, hrw⟩ : ∃ r, (Value.slice s1 ss.length k1).ownBlock = r := ⟨_, rfl⟩
      rw [hrw] at RB
      have HRB := Lib.hid hrw
      clear hrw
      have G00 : Hid (V5.grownBy V5 row) := World.grownBy.refl _ _
      have NF : Hid (some fb ≠ row) := fun e => (RB.out fb e.symm).2.1 rfl
      have KM : Hid (∀ V, V5.grownBy V row → ClB w #[.string nm, .int .i64 sp, .int .i64 st, .slice so ss.length sc, .slice lo ls.length lc, .slice to_ ts.length tc] #[.string ⟨#[]⟩, .int .i64 0, .int .i64 0, .slice none 0 0, .slice none 0 0, .slice none 0 0] V) := fun V h => clb_row2 M5.out h (fun r hr => (RB.out r hr).1)
      have KS : Hid (∀ V, V5.grownBy V row → SmpsAt V so ss) := fun V h => HA.out.hs.grown (KM.out V h).g
      have D2 := Lib.hid d2
      have HSC := Lib.hid hsc
      clear hl2 hl3 d2 hsc
      have u3 := block_cell BF0.out 3 _ rfl
      obtain ⟨i0, hi, hz0, hz1, hz2⟩ := info_parts cinfo_intL
      have HI0 := Lib.hid hi; have HZ0 := Lib.hid hz0; have HZ1 := Lib.hid hz1; have HZ2 := Lib.hid hz2
      clear hi hz0 hz1 hz2
      go_wp2_with fail
      clear u3
      go_loopw [25] (fun iv wr => ∃ (k : Nat), iv = .int .i64 (k : Int) ∧ k ≤ ss.length ∧ Hid (World.ownsRow wr b0 28 7 (.slice s1 ss.length k1) ss.length (smpRw (lvA ss wd k))) ∧ Hid (wr.heap[fb]? = some (.cells #[.string nm, .int .i64 sp, .int .i64 st, .slice s1 ss.length k1, .slice l1 ls.length j1, .slice t1 ts.length i1] 26 (0, 0))) ∧ Hid (V5.grownBy wr row)) (fun iv _ => ss.length - (intOf iv).toNat)
      case atStart => exact ⟨0, rfl, Nat.zero_le _, R5, BF0, G00⟩
      case round =>
        obtain ⟨k, rfl, hk, R, BF, G0⟩ := hrel
        by_cases hlt : k < ss.length
        · obtain ⟨b, off, rfl⟩ := lv_so HA.out.hs (fun e => by have e2 : ss = [] := e; rw [e2] at hlt; simp at hlt)
          obtain ⟨hw0, hw1, hw2, hw3, hw4⟩ := win_len (A := ss) (wd := wd) hlt
          obtain ⟨f, hf⟩ : ∃ f, frW wd k = f := ⟨_, rfl⟩
          obtain ⟨t, ht⟩ : ∃ t, toW ss.length wd k = t := ⟨_, rfl⟩
          rw [hf, ht] at hw0
          rw [hf] at hw1
          rw [ht] at hw2 hw3
          rw [hf, ht] at hw4
          have hd2 := D2.out
          have HTW : Hid (t = min (k + wd + 1) ss.length) := by show _ = _; rw [← ht]; rfl
          have mx : max (0 : Int) ((k : Int) - (wd : Int)) = (f : Int) := by unfold frW at hf; omega
          have q1 : IntKind.i64.wrap ((k : Int) - (wd : Int)) = (k : Int) - (wd : Int) := IntWalk.i64_in _ (by omega)
          have q2 : IntKind.i64.wrap ((k : Int) + (wd : Int)) = (k : Int) + (wd : Int) := IntWalk.i64_in _ (by omega)
          have rk : IntKind.i64.wrap ((k : Int) + 1) = ((k + 1 : Nat) : Int) := by rw [show (k : Int) + 1 = ((k + 1 : Nat) : Int) by omega]; exact IntWalk.i64_in _ (by omega)
          obtain ⟨g, kk, hv, _, _⟩ := R.out.form (by omega)
          injection hv with e1 _ e3
          subst e3
          have R2 := R.out
          rw [e1] at R2
          have hgr : Hid (some g = row) := by show _ = _; rw [← HRB.out, e1]; rfl
          obtain ⟨v, hvv⟩ : ∃ v, midV (zsOf (winL ss wd k)) = v := ⟨_, rfl⟩
          have HV := Lib.hid hvv
          have hl : Hid ((lvA ss wd k).length = ss.length) := lv_len ss wd k
          obtain ⟨V1, hV1⟩ : ∃ V, wr = V := ⟨_, rfl⟩
          subst hV1
          have HN : Hid (∀ V : World, wr.grownBy V none → Hid (World.ownsRow (V.setCell ⟨g, k * 7 + 3, none⟩ (.int .i64 v)) b0 28 7 (.slice s1 ss.length k1) ss.length (smpRw (lvA ss wd (k + 1))))) := fun V hV => by
            have q := own_fieldN4 (R2.kept hV (by cases (Value.slice (some ⟨g, 0, none⟩) ss.length k1).ownBlock <;> simp)) hl.out (k := k) (c := 3) hlt ⟨by omega, by omega⟩ v
            show World.ownsRow _ _ _ _ _ _ _
            rw [lvA, HV.out, e1]; exact q
          have HWN : Hid (winL ss wd k = (ss.drop f).take (t - f)) := by show _ = _; unfold winL; rw [hf, ht]
          obtain ⟨cur, hcur⟩ := own_head R2
          have HC := Lib.hid hcur
          have E1 := Lib.hid e1
          have HLT := Lib.hid hlt
          have hgl : Hid (g < wr.heap.size) := lt_of_block hcur
          have ck3 : ∃ z, wr.cell? ⟨g, k * 7 + 3, none⟩ = some z := ⟨_, (fil4_cells R2 hl.out hlt rfl).2.2.2.1⟩
          obtain ⟨z3, hz3⟩ := ck3
          have HZ3 := Lib.hid hz3
          have HM := Lib.hid (KM.out _ G0.out).a
          have HSS := Lib.hid (KS.out _ G0.out)
          have HFT : Hid (f ≤ k ∧ k + 1 ≤ t ∧ t ≤ ss.length ∧ t - f ≤ 2 * wd + 1) := ⟨hw1, hw2, hw3, hw4⟩
          have b1 : (0 : Int) ≤ (k : Int) := by omega
          have b2 : (k : Int) < (ss.length : Int) := by omega
          clear hw0 hw1 hw2 hw3 hw4 hf ht hvv e1 R2 hcur hk hlt hz3 R
          go_wp2_with fail
          have RK := Lib.hid rk
          clear rk q1 mx
          generalize hW : wr = V1 at *
          clear hW wr
          go_loopw [9, 10] (fun lv kv wl => ∃ (m : Nat) (v' : Value), v' = lv ∧ kv = .int .i64 ((f + m : Nat) : Int) ∧ f + m ≤ t ∧ Hid (V1.grownBy wl none) ∧ Hid (wl.ownsRow V1.heap.size 3 1 v' m ((zsOf ((ss.drop f).take m)).map (Value.int .i64)))) (fun _ kv _ => t - (intOf kv).toNat)
          case atStart => exact ⟨0, _, rfl, rfl, by have := HFT.out; omega, grown_refl _ _, by show World.ownsRow _ _ _ _ _ _ _; rw [List.take_zero]; exact World.ownsRow_nil _ _ _ _⟩
          case round =>
            obtain ⟨m, v', rfl, rfl, hm, hG, hO⟩ := hrel
            have u3 := block_cell (block_at HM.out hG.out (by simp)) 3 _ rfl
            have hft := HFT.out
            have htw := HTW.out
            have rm : IntKind.i64.wrap (((f + m : Nat) : Int) + 1) = ((f + (m + 1) : Nat) : Int) := by rw [show ((f + m : Nat) : Int) + 1 = ((f + (m + 1) : Nat) : Int) by omega]; exact IntWalk.i64_in _ (by omega)
            by_cases hmt : f + m < t
            · have hfm : f + m < ss.length := by omega
              obtain ⟨c0, c1, c2, c3, c4, c5, c6⟩ := (HSS.out.grown hG.out).cells _ rfl (f + m) hfm
              rw [← smpD_at hfm] at c3
              have HZS : Hid (zsOf ((ss.drop f).take (m + 1)) = zsOf ((ss.drop f).take m) ++ [(smpD ss (f + m)).z]) := by
                show _ = _
                unfold zsOf
                rw [List.take_add_one, List.map_append]
                congr 1
                rw [List.getElem?_drop, List.getElem?_eq_getElem hfm, smpD_at hfm]
                rfl
              obtain ⟨z, hz⟩ : ∃ z, (smpD ss (f + m)).z = z := ⟨_, rfl⟩
              rw [hz] at c3 HZS
              simp only at c3
              have dA : decide (((f + m : Nat) : Int) ≤ (k : Int) + (wd : Int)) = true := by simp; omega
              have dB : decide (((f + m : Nat) : Int) < (ss.length : Int)) = true := by simp; omega
              have g1 : (0 : Int) ≤ ((f + m : Nat) : Int) := by omega
              have g2 : ((f + m : Nat) : Int) < (ss.length : Int) := by omega
              have hml : Hid (m ≤ 200) := by show _ ≤ _; have := D2.out; omega
              have HMT := Lib.hid hmt
              obtain ⟨n1, hn1⟩ : ∃ n1, f + m = n1 := ⟨_, rfl⟩
              have HN1 := Lib.hid hn1
              rw [hn1] at dA dB g1 g2 c3 rm ⊢
              clear hz c0 c1 c2 c4 c5 c6 hfm hm hft htw hmt hn1
              go_wp2_with (at_builtin; go_loud (refine wpList_append_own _ rfl _ _ 48 rfl V1.heap.size 3 i0 (.int .i64 0) 1 8 Try.underlying48 HI0.out HZ0.out HZ1.out HZ2.out rfl (by decide) _ _ _ rfl (hO.out.alloc _) ⟨wr.heap.size, 0, none⟩ 1 1 [.int .i64 z] rfl rfl (World.news_of_block (cs := #[.int .i64 z]) (t := 3) (fr := (0, 0)) (heap_alloc_new wr _)) (by simp [Value.oneCell']) (by have := hml.out; unfold maxLen; omega) (by have := hml.out; omega) (Nat.le_trans hG.out.size (World.grownBy_alloc _ _ none).size) ?_); go_loud (intro v2 w10 ho10 hg10 hnil; have O6 := Lib.hid ho10; have G6 := Lib.hid (grown_rowR (grown_trans hG.out (World.grownBy_alloc _ _ _)) hg10 (fun r hr => (hO.out.lt r hr).1)); clear ho10 hg10 hnil hG hO))
              go_roundw
              case rel => exact ⟨m + 1, _, rfl, by have h := HN1.out; rw [show f + (m + 1) = n1 + 1 by omega] at rm ⊢; first | go_num | (rw [rm]; done) | omega, by have := HMT.out; omega, G6, by show World.ownsRow _ _ _ _ _ _ _; rw [HZS.out, List.map_append]; exact O6.out⟩
              case measure => have := HN1.out; have := HMT.out; simp [intOf]; omega
            · have hmt2 : f + m = t := by omega
              have hm1 : 1 ≤ m := by omega
              have dC : (decide (((f + m : Nat) : Int) ≤ (k : Int) + (wd : Int)) = true ∧ decide (((f + m : Nat) : Int) < (ss.length : Int)) = false ∧ decide (f + m < ss.length) = false ∧ ¬ (f + m < ss.length)) ∨ (decide (((f + m : Nat) : Int) ≤ (k : Int) + (wd : Int)) = false ∧ ¬ (((f + m : Nat) : Int) ≤ (k : Int) + (wd : Int))) := by
                simp only [decide_eq_true_eq, decide_eq_false_iff_not]; omega
              obtain ⟨lg, lcap, hv', _, _⟩ := hO.out.form (by omega)
              have hlg := (hO.out.lt lg (by rw [hv']; rfl)).1
              subst hv'
              have hml : m ≤ 200 := by have := D2.out; omega
              have HXS : Hid (midV (zsOf ((ss.drop f).take m)) = v) := by show _ = _; rw [show m = t - f by omega, ← HWN.out]; exact HV.out
              have hxl : (zsOf ((ss.drop f).take m)).length = m := by
                unfold zsOf
                rw [List.length_map, List.length_take, List.length_drop]; omega
              have HXL := Lib.hid hxl
              have HLG := Lib.hid hlg
              have f3 := grown_cell hG.out (block_cell BF.out 3 _ rfl)
              rw [E1.out] at f3
              clear hm hft htw hmt hxl hlg rm hmt2
              generalize f + m = n1 at *
              have KR : Hid (∀ V : World, wr.grownBy V none → Calls Try.prog 89 #[.slice (some ⟨lg, 0, none⟩) m lcap] V fun e w' => e = .returned (.int .i64 v) ∧ V1.grownBy w' none) := fun V hV => by
                have q := rmiddle_is V1.heap.size lg lcap m (zsOf ((ss.drop f).take m)) HXL.out hm1 hml V (hO.out.kept hV (by cases (Value.slice (some ⟨lg, 0, none⟩) m lcap).ownBlock <;> simp))
                refine q.mono ?_
                rintro e w' ⟨rfl, h⟩
                exact ⟨by rw [HXS.out], grown_rowR (grown_trans hG.out hV) h (fun r hr => by injection hr with hr; have := HLG.out; omega)⟩
              have KEEPF := Lib.hid f3
              clear f3 hm1 hml
              rcases dC with dA | dA
              · obtain ⟨dA, dB, dB2, dB3⟩ := dA
                go_upto_region 15 with (fail)
                have gd : wr.grownBy wr.drew none := grown_drewN wr none 1
                have kf := grown_cell gd KEEPF.out
                have GD := Lib.hid gd
                clear gd u3
                refine region_late (lateK (fun V => V.cell? ⟨fb, 3, none⟩ = some (.slice (some ⟨g, 0, none⟩) ss.length k1)) []) (by kernel_rfl) kf (fun hCa0 hSa0 => ?_)
                generalize wr.drew = V2 at *
                refine wpAnyS_take (i := 0) (oi := ?oia1) (v := .pointer (some ⟨fb, 3, none⟩)) ?hia1 (by kernel_rfl) (by kernel_rfl) (by kernel_rfl) (lateK_iff (by rfl)) ?hqa1 ?hya1 hCa0 hSa0 ?resta1
                case hia1 => simp only [List.getElem?_toArray, List.getElem?_cons_zero, Option.some.injEq]; rfl
                case hqa1 => exact fun _ _ _ h => h
                case hya1 =>
                  refine Or.inl ⟨by kernel_rfl, fun V hV => ?_⟩
                  clear hV
                  go_simp
                intro hCa1 hSa1
                clear hCa0 hSa0
                try simp only [Go.Act.put, List.setIfInBounds_toArray, List.set_cons_zero, List.set_cons_succ]
                refine wpAnyS_take (i := 1) (oi := ?oia2) (v := .slice (some ⟨g, 0, none⟩) ss.length k1) ?hia2 (by kernel_rfl) (by kernel_rfl) (by kernel_rfl) (lateK_iff (by rfl)) ?hqa2 ?hya2 hCa1 hSa1 ?resta2
                case hia2 => simp only [List.getElem?_toArray, List.getElem?_cons_succ, List.getElem?_cons_zero, Option.some.injEq]; rfl
                case hqa2 => exact fun _ _ _ h => h
                case hya2 =>
                  refine Or.inl ⟨by kernel_rfl, fun V hV => ?_⟩
                  have zz := lateK_g hV; clear hV
                  go_simp
                intro hCa2 hSa2
                clear hCa1 hSa1
                try simp only [Go.Act.put, List.setIfInBounds_toArray, List.set_cons_zero, List.set_cons_succ]
                refine wpAnyS_take (i := 2) (oi := ?oia3) (v := .int .i64 (k : Int)) ?hia3 (by kernel_rfl) (by kernel_rfl) (by kernel_rfl) (lateK_iff (by rfl)) ?hqa3 ?hya3 hCa2 hSa2 ?resta3
                case hia3 => simp only [List.getElem?_toArray, List.getElem?_cons_succ, List.getElem?_cons_zero, Option.some.injEq]; rfl
                case hqa3 => exact fun _ _ _ h => h
                case hya3 =>
                  refine Or.inl ⟨by kernel_rfl, fun V hV => ?_⟩
                  clear hV
                  go_simp
                intro hCa3 hSa3
                clear hCa2 hSa2
                try simp only [Go.Act.put, List.setIfInBounds_toArray, List.set_cons_zero, List.set_cons_succ]
                refine wpAnyS_take (i := 3) (oi := ?oia4) (v := .slice (some ⟨lg, 0, none⟩) m lcap) ?hia4 (by kernel_rfl) (by kernel_rfl) (by kernel_rfl) (lateK_iff (by rfl)) ?hqa4 ?hya4 hCa3 hSa3 ?resta4
                case hia4 => simp only [List.getElem?_toArray, List.getElem?_cons_succ, List.getElem?_cons_zero, Option.some.injEq]; rfl
                case hqa4 => exact fun _ _ _ h => h
                case hya4 =>
                  refine Or.inl ⟨by kernel_rfl, fun V hV => ?_⟩
                  clear hV
                  go_simp
                intro hCa4 hSa4
                clear hCa3 hSa3
                try simp only [Go.Act.put, List.setIfInBounds_toArray, List.set_cons_zero, List.set_cons_succ]
                refine wpAnyS_ready (rs := [4]) (by kernel_rfl) (by simp) ?_
                refine AllReadyS.cons rfl hCa4 (fun K hK => ?_) AllReadyS.nil
                go_simp
                refine (KR.out _ GD.out).mono ?_
                rintro e w7 ⟨rfl, hg⟩
                have GE := Lib.hid hg
                have kf7 : w7.cell? ⟨fb, 3, none⟩ = some (.slice (some ⟨g, 0, none⟩) ss.length k1) := by have q := grown_cell hg (block_cell BF.out 3 _ rfl); rw [E1.out] at q; exact q
                clear hg kf
                refine hK.out _ _ kf7 (fun hCa5 hSa5 => ?_)
                clear hK hCa4 hSa4 K
                try simp only [Go.Act.put, List.setIfInBounds_toArray, List.set_cons_zero, List.set_cons_succ]
                refine wpAnyS_take (i := 5) (oi := ?oia6) (v := .pointer (some ⟨g, k * 7, none⟩)) ?hia6 (by kernel_rfl) (by kernel_rfl) (by kernel_rfl) (lateK_iff (by rfl)) ?hqa6 ?hya6 hCa5 hSa5 ?resta6
                case hia6 => simp only [List.getElem?_toArray, List.getElem?_cons_succ, List.getElem?_cons_zero, Option.some.injEq]; rfl
                case hqa6 => exact fun _ _ _ h => h
                case hya6 =>
                  refine Or.inl ⟨by kernel_rfl, fun V hV => ?_⟩
                  clear hV
                  go_simp
                intro hCa6 hSa6
                clear hCa5 hSa5
                try simp only [Go.Act.put, List.setIfInBounds_toArray, List.set_cons_zero, List.set_cons_succ]
                refine wpAnyS_take (i := 6) (oi := ?oia7) (v := .pointer (some ⟨g, k * 7 + 3, none⟩)) ?hia7 (by kernel_rfl) (by kernel_rfl) (by kernel_rfl) (lateK_iff (by rfl)) ?hqa7 ?hya7 hCa6 hSa6 ?resta7
                case hia7 => simp only [List.getElem?_toArray, List.getElem?_cons_succ, List.getElem?_cons_zero, Option.some.injEq]; rfl
                case hqa7 => exact fun _ _ _ h => h
                case hya7 =>
                  refine Or.inl ⟨by kernel_rfl, fun V hV => ?_⟩
                  clear hV
                  go_simp
                intro hCa7 hSa7
                clear hCa6 hSa6
                try simp only [Go.Act.put, List.setIfInBounds_toArray, List.set_cons_zero, List.set_cons_succ]
                refine wpAnyS_ready (rs := [7]) (by kernel_rfl) (by simp) ?_
                refine AllReadyS.cons rfl hCa7 (fun K hK => ?_) AllReadyS.nil
                have ff : w7.frozen? ⟨g, k * 7 + 3, none⟩ = false := block_free (block_at HC.out GE.out (by simp))
                have kz := grown_cell GE.out HZ3.out
                go_simp
                have HO := Lib.hid (HN.out _ GE.out).out
                have GF : Hid (V5.grownBy (w7.setCell ⟨g, k * 7 + 3, none⟩ (.int .i64 v)) row) := lv_set (grown_trans G0.out (lv_grow row GE.out)) hgr.out _ _
                have nf : fb ≠ g := fun e => NF.out (by rw [← hgr.out, e])
                have BF2 : Hid ((w7.setCell ⟨g, k * 7 + 3, none⟩ (.int .i64 v)).heap[fb]? = some (.cells #[.string nm, .int .i64 sp, .int .i64 st, .slice s1 ss.length k1, .slice l1 ls.length j1, .slice t1 ts.length i1] 26 (0, 0))) := blk_far4 (block_at (row := none) BF.out GE.out (by simp)) nf _ _
                have kf2 : (w7.setCell ⟨g, k * 7 + 3, none⟩ (.int .i64 v)).cell? ⟨fb, 3, none⟩ = some (.slice (some ⟨g, 0, none⟩) ss.length k1) := by rw [World.cell?_setCell_other _ _ _ _ (fun e => by injection e with e; exact nf e.symm)]; exact kf7
                clear kf7 kz ff nf
                refine hK.out _ _ kf2 (fun hCa8 hSa8 => ?_)
                clear hK hCa7 hSa7 K
                try simp only [Go.Act.put, List.setIfInBounds_toArray, List.set_cons_zero, List.set_cons_succ]
                refine wpAnyS_done (by kernel_rfl) ?_ _
                clear hCa8 hSa8
                have rk := RK.out
                clear kf2
                generalize w7.setCell ⟨g, k * 7 + 3, none⟩ (.int .i64 v) = V12 at *
                go_wp2_with fail
                go_roundw
                case rel => exact ⟨k + 1, by go_num, HLT.out, HO, BF2, GF⟩
                case measure => have := HLT.out; simp [intOf]; omega
              · obtain ⟨dA, dA2⟩ := dA
                go_upto_region 15 with (fail)
                have gd : wr.grownBy wr.drew none := grown_drewN wr none 1
                have kf := grown_cell gd KEEPF.out
                have GD := Lib.hid gd
                clear gd u3
                refine region_late (lateK (fun V => V.cell? ⟨fb, 3, none⟩ = some (.slice (some ⟨g, 0, none⟩) ss.length k1)) []) (by kernel_rfl) kf (fun hCb0 hSb0 => ?_)
                generalize wr.drew = V2 at *
                refine wpAnyS_take (i := 0) (oi := ?oib1) (v := .pointer (some ⟨fb, 3, none⟩)) ?hib1 (by kernel_rfl) (by kernel_rfl) (by kernel_rfl) (lateK_iff (by rfl)) ?hqb1 ?hyb1 hCb0 hSb0 ?restb1
                case hib1 => simp only [List.getElem?_toArray, List.getElem?_cons_zero, Option.some.injEq]; rfl
                case hqb1 => exact fun _ _ _ h => h
                case hyb1 =>
                  refine Or.inl ⟨by kernel_rfl, fun V hV => ?_⟩
                  clear hV
                  go_simp
                intro hCb1 hSb1
                clear hCb0 hSb0
                try simp only [Go.Act.put, List.setIfInBounds_toArray, List.set_cons_zero, List.set_cons_succ]
                refine wpAnyS_take (i := 1) (oi := ?oib2) (v := .slice (some ⟨g, 0, none⟩) ss.length k1) ?hib2 (by kernel_rfl) (by kernel_rfl) (by kernel_rfl) (lateK_iff (by rfl)) ?hqb2 ?hyb2 hCb1 hSb1 ?restb2
                case hib2 => simp only [List.getElem?_toArray, List.getElem?_cons_succ, List.getElem?_cons_zero, Option.some.injEq]; rfl
                case hqb2 => exact fun _ _ _ h => h
                case hyb2 =>
                  refine Or.inl ⟨by kernel_rfl, fun V hV => ?_⟩
                  have zz := lateK_g hV; clear hV
                  go_simp
                intro hCb2 hSb2
                clear hCb1 hSb1
                try simp only [Go.Act.put, List.setIfInBounds_toArray, List.set_cons_zero, List.set_cons_succ]
                refine wpAnyS_take (i := 2) (oi := ?oib3) (v := .int .i64 (k : Int)) ?hib3 (by kernel_rfl) (by kernel_rfl) (by kernel_rfl) (lateK_iff (by rfl)) ?hqb3 ?hyb3 hCb2 hSb2 ?restb3
                case hib3 => simp only [List.getElem?_toArray, List.getElem?_cons_succ, List.getElem?_cons_zero, Option.some.injEq]; rfl
                case hqb3 => exact fun _ _ _ h => h
                case hyb3 =>
                  refine Or.inl ⟨by kernel_rfl, fun V hV => ?_⟩
                  clear hV
                  go_simp
                intro hCb3 hSb3
                clear hCb2 hSb2
                try simp only [Go.Act.put, List.setIfInBounds_toArray, List.set_cons_zero, List.set_cons_succ]
                refine wpAnyS_take (i := 3) (oi := ?oib4) (v := .slice (some ⟨lg, 0, none⟩) m lcap) ?hib4 (by kernel_rfl) (by kernel_rfl) (by kernel_rfl) (lateK_iff (by rfl)) ?hqb4 ?hyb4 hCb3 hSb3 ?restb4
                case hib4 => simp only [List.getElem?_toArray, List.getElem?_cons_succ, List.getElem?_cons_zero, Option.some.injEq]; rfl
                case hqb4 => exact fun _ _ _ h => h
                case hyb4 =>
                  refine Or.inl ⟨by kernel_rfl, fun V hV => ?_⟩
                  clear hV
                  go_simp
                intro hCb4 hSb4
                clear hCb3 hSb3
                try simp only [Go.Act.put, List.setIfInBounds_toArray, List.set_cons_zero, List.set_cons_succ]
                refine wpAnyS_ready (rs := [4]) (by kernel_rfl) (by simp) ?_
                refine AllReadyS.cons rfl hCb4 (fun K hK => ?_) AllReadyS.nil
                go_simp
                refine (KR.out _ GD.out).mono ?_
                rintro e w7 ⟨rfl, hg⟩
                have GE := Lib.hid hg
                have kf7 : w7.cell? ⟨fb, 3, none⟩ = some (.slice (some ⟨g, 0, none⟩) ss.length k1) := by have q := grown_cell hg (block_cell BF.out 3 _ rfl); rw [E1.out] at q; exact q
                clear hg kf
                refine hK.out _ _ kf7 (fun hCb5 hSb5 => ?_)
                clear hK hCb4 hSb4 K
                try simp only [Go.Act.put, List.setIfInBounds_toArray, List.set_cons_zero, List.set_cons_succ]
                refine wpAnyS_take (i := 5) (oi := ?oib6) (v := .pointer (some ⟨g, k * 7, none⟩)) ?hib6 (by kernel_rfl) (by kernel_rfl) (by kernel_rfl) (lateK_iff (by rfl)) ?hqb6 ?hyb6 hCb5 hSb5 ?restb6
                case hib6 => simp only [List.getElem?_toArray, List.getElem?_cons_succ, List.getElem?_cons_zero, Option.some.injEq]; rfl
                case hqb6 => exact fun _ _ _ h => h
                case hyb6 =>
                  refine Or.inl ⟨by kernel_rfl, fun V hV => ?_⟩
                  clear hV
                  go_simp
                intro hCb6 hSb6
                clear hCb5 hSb5
                try simp only [Go.Act.put, List.setIfInBounds_toArray, List.set_cons_zero, List.set_cons_succ]
                refine wpAnyS_take (i := 6) (oi := ?oib7) (v := .pointer (some ⟨g, k * 7 + 3, none⟩)) ?hib7 (by kernel_rfl) (by kernel_rfl) (by kernel_rfl) (lateK_iff (by rfl)) ?hqb7 ?hyb7 hCb6 hSb6 ?restb7
                case hib7 => simp only [List.getElem?_toArray, List.getElem?_cons_succ, List.getElem?_cons_zero, Option.some.injEq]; rfl
                case hqb7 => exact fun _ _ _ h => h
                case hyb7 =>
                  refine Or.inl ⟨by kernel_rfl, fun V hV => ?_⟩
                  clear hV
                  go_simp
                intro hCb7 hSb7
                clear hCb6 hSb6
                try simp only [Go.Act.put, List.setIfInBounds_toArray, List.set_cons_zero, List.set_cons_succ]
                refine wpAnyS_ready (rs := [7]) (by kernel_rfl) (by simp) ?_
                refine AllReadyS.cons rfl hCb7 (fun K hK => ?_) AllReadyS.nil
                have ff : w7.frozen? ⟨g, k * 7 + 3, none⟩ = false := block_free (block_at HC.out GE.out (by simp))
                have kz := grown_cell GE.out HZ3.out
                go_simp
                have HO := Lib.hid (HN.out _ GE.out).out
                have GF : Hid (V5.grownBy (w7.setCell ⟨g, k * 7 + 3, none⟩ (.int .i64 v)) row) := lv_set (grown_trans G0.out (lv_grow row GE.out)) hgr.out _ _
                have nf : fb ≠ g := fun e => NF.out (by rw [← hgr.out, e])
                have BF2 : Hid ((w7.setCell ⟨g, k * 7 + 3, none⟩ (.int .i64 v)).heap[fb]? = some (.cells #[.string nm, .int .i64 sp, .int .i64 st, .slice s1 ss.length k1, .slice l1 ls.length j1, .slice t1 ts.length i1] 26 (0, 0))) := blk_far4 (block_at (row := none) BF.out GE.out (by simp)) nf _ _
                have kf2 : (w7.setCell ⟨g, k * 7 + 3, none⟩ (.int .i64 v)).cell? ⟨fb, 3, none⟩ = some (.slice (some ⟨g, 0, none⟩) ss.length k1) := by rw [World.cell?_setCell_other _ _ _ _ (fun e => by injection e with e; exact nf e.symm)]; exact kf7
                clear kf7 kz ff nf
                refine hK.out _ _ kf2 (fun hCb8 hSb8 => ?_)
                clear hK hCb7 hSb7 K
                try simp only [Go.Act.put, List.setIfInBounds_toArray, List.set_cons_zero, List.set_cons_succ]
                refine wpAnyS_done (by kernel_rfl) ?_ _
                clear hCb8 hSb8
                have rk := RK.out
                clear kf2
                generalize w7.setCell ⟨g, k * 7 + 3, none⟩ (.int .i64 v) = V12 at *
                go_wp2_with fail
                go_roundw
                case rel => exact ⟨k + 1, by go_num, HLT.out, HO, BF2, GF⟩
                case measure => have := HLT.out; simp [intOf]; omega
        · obtain rfl : k = ss.length := by omega
          have M8 := Lib.hid (KM.out _ G0.out)
          have HL := Lib.hid (H5.out.hl.rowed G0.out (fun p hp e => by
            obtain ⟨q, hq⟩ : ∃ q, s1 = some q := by
              rw [← HRB.out] at e
              cases s1 with
              | none => cases e
              | some q => exact ⟨q, rfl⟩
            have e2 := HRB.out
            rw [hq] at e2
            rw [← e2] at e
            injection e with e
            exact SP1.out q p hq hp e.symm))
          have HT := Lib.hid (H5.out.ht.rowed G0.out (fun p hp e => by
            obtain ⟨q, hq⟩ : ∃ q, s1 = some q := by
              rw [← HRB.out] at e
              cases s1 with
              | none => cases e
              | some q => exact ⟨q, rfl⟩
            have e2 := HRB.out
            rw [hq] at e2
            rw [← e2] at e
            injection e with e
            exact SP2.out q p hq hp e.symm))
          have hfl : (lvA ss wd ss.length).length = ss.length := lv_len ss wd ss.length
          have hs8 : SmpsAt wr s1 (lvA ss wd ss.length) := by
            have q : World.ownsRow wr b0 28 7 (.slice s1 (lvA ss wd ss.length).length k1) (lvA ss wd ss.length).length (smpRw (lvA ss wd ss.length)) := by rw [hfl]; exact R.out
            obtain ⟨ao, cp, hv, hs, _⟩ := own_smps q
            injection hv with e1 _ _
            rw [e1]; exact hs
          have HQ : Hid (ActAt wr ⟨nm, sp, st, s1, k1, (lvA ss wd ss.length), l1, j1, ls, t1, i1, ts⟩) := ⟨H5.out.ns, by show ((lvA ss wd ss.length).length : Int) ≤ _; rw [hfl]; exact H5.out.sl, H5.out.ll, H5.out.tl, hs8, HL.out, HT.out⟩
          have HQF : Hid (ActFar ⟨nm, sp, st, s1, k1, (lvA ss wd ss.length), l1, j1, ls, t1, i1, ts⟩ (w.heap.size + 2)) := ⟨fun p e => HFZ.out p (.inl e), fun p e => HFZ.out p (.inr (.inl e)), fun p e => HFZ.out p (.inr (.inr e))⟩
          have HFL := Lib.hid hfl
          clear hfl hs8 HL HT H5 R G0 M5 KM KS
          have x0 := block_cell BF.out 0 _ rfl
          have x1 := block_cell BF.out 1 _ rfl
          have x2 := block_cell BF.out 2 _ rfl
          have x3 := block_cell BF.out 3 _ rfl
          have x4 := block_cell BF.out 4 _ rfl
          have x5 := block_cell BF.out 5 _ rfl
          have z0 := block_cell M8.out.z 0 _ rfl
          have y0 := block_free (k := 0) M8.out.z
          have z1 := block_cell M8.out.z 1 _ rfl
          have y1 := block_free (k := 1) M8.out.z
          have z2 := block_cell M8.out.z 2 _ rfl
          have y2 := block_free (k := 2) M8.out.z
          have z3 := block_cell M8.out.z 3 _ rfl
          have y3 := block_free (k := 3) M8.out.z
          have z4 := block_cell M8.out.z 4 _ rfl
          have y4 := block_free (k := 4) M8.out.z
          have z5 := block_cell M8.out.z 5 _ rfl
          have y5 := block_free (k := 5) M8.out.z
          go_wp2_with fail
          refine bodyPost_ret (v := .tuple #[.agg #[.string nm, .int .i64 sp, .int .i64 st, .slice s1 ss.length k1, .slice l1 ls.length j1, .slice t1 ts.length i1], .int .i64 0]) (by simp [results, Try.results35, go_sem, z0, z1, z2, z3, z4, z5]) rfl ⟨⟨_, rfl, s1, k1, l1, j1, t1, i1, ?_, ?_, HQF.out.mono (by omega)⟩, ((((((M8.out.setZ 0 _).setZ 1 _).setZ 2 _).setZ 3 _).setZ 4 _).setZ 5 _).g⟩
          · show Value.agg #[.string nm, .int .i64 sp, .int .i64 st, .slice s1 ss.length k1, .slice l1 ls.length j1, .slice t1 ts.length i1] = Value.agg #[.string nm, .int .i64 sp, .int .i64 st, .slice s1 (lvA ss wd ss.length).length k1, .slice l1 ls.length j1, .slice t1 ts.length i1]
            rw [HFL.out]
          · refine HQ.out.far HQF.out (fun p hp => ?_)
            iterate 6 rw [World.cell?_setCell_other _ _ _ _ (fun e => by subst e; simp at hp)]
    · rw [if_neg d2] at hv
      simp only [Prod.mk.injEq] at hv
      obtain ⟨rfl, rfl⟩ := hv
      have D2 : Hid (width < 0 ∨ 50 < width) := by show _ ∨ _; omega
      obtain ⟨nm, sp, st, so, sc, ss, lo, lc, ls, to_, tc, ts⟩ := a
      simp only [Act.val] at *
      clear hE hce ha d2 hsc
      have M0 := Lib.hid (ClB.new w #[.string nm, .int .i64 sp, .int .i64 st, .slice so ss.length sc, .slice lo ls.length lc, .slice to_ ts.length tc] #[.string ⟨#[]⟩, .int .i64 0, .int .i64 0, .slice none 0 0, .slice none 0 0, .slice none 0 0])
      go_enter Try.func35, Try.ntmps35
      go_wp2_with fail
      refine (rcheck_any ⟨nm, sp, st, so, sc, ss, lo, lc, ls, to_, tc, ts⟩ _ (HA.out.grown M0.out.g) HCE).mono ?_; rintro e w1 ⟨rfl, hg1⟩
      have M1 := Lib.hid (M0.out.grown hg1)
      clear hg1
      go_wp2_with fail
      refine (rout_yes _ _ _ D2.out _).mono ?_; rintro e w2 ⟨rfl, rfl⟩
      have z0 := block_cell M1.out.z 0 _ rfl
      have y0 := block_free (k := 0) M1.out.z
      have z1 := block_cell M1.out.z 1 _ rfl
      have y1 := block_free (k := 1) M1.out.z
      have z2 := block_cell M1.out.z 2 _ rfl
      have y2 := block_free (k := 2) M1.out.z
      have z3 := block_cell M1.out.z 3 _ rfl
      have y3 := block_free (k := 3) M1.out.z
      have z4 := block_cell M1.out.z 4 _ rfl
      have y4 := block_free (k := 4) M1.out.z
      have z5 := block_cell M1.out.z 5 _ rfl
      have y5 := block_free (k := 5) M1.out.z
      go_wp2_with fail
      refine bodyPost_ret (v := .tuple #[.agg #[.string ⟨#[]⟩, .int .i64 0, .int .i64 0, .slice none 0 0, .slice none 0 0, .slice none 0 0], .int .i64 9]) (by simp [results, Try.results35, go_sem, z0, z1, z2, z3, z4, z5]) rfl ⟨⟨_, rfl, act0_new _ _⟩, ((((((M1.out.setZ 0 _).setZ 1 _).setZ 2 _).setZ 3 _).setZ 4 _).setZ 5 _).g⟩
  · rw [if_neg d1] at hv
    simp only [Prod.mk.injEq] at hv
    obtain ⟨rfl, rfl⟩ := hv
    have hne : (ce != 0) = true := by simpa using d1
    obtain ⟨nm, sp, st, so, sc, ss, lo, lc, ls, to_, tc, ts⟩ := a
    simp only [Act.val] at *
    clear hE hce ha d1 hsc
    have M0 := Lib.hid (ClB.new w #[.string nm, .int .i64 sp, .int .i64 st, .slice so ss.length sc, .slice lo ls.length lc, .slice to_ ts.length tc] #[.string ⟨#[]⟩, .int .i64 0, .int .i64 0, .slice none 0 0, .slice none 0 0, .slice none 0 0])
    go_enter Try.func35, Try.ntmps35
    go_wp2_with fail
    refine (rcheck_any ⟨nm, sp, st, so, sc, ss, lo, lc, ls, to_, tc, ts⟩ _ (HA.out.grown M0.out.g) HCE).mono ?_; rintro e w1 ⟨rfl, hg1⟩
    have M1 := Lib.hid (M0.out.grown hg1)
    clear hg1
    have z0 := block_cell M1.out.z 0 _ rfl
    have y0 := block_free (k := 0) M1.out.z
    have z1 := block_cell M1.out.z 1 _ rfl
    have y1 := block_free (k := 1) M1.out.z
    have z2 := block_cell M1.out.z 2 _ rfl
    have y2 := block_free (k := 2) M1.out.z
    have z3 := block_cell M1.out.z 3 _ rfl
    have y3 := block_free (k := 3) M1.out.z
    have z4 := block_cell M1.out.z 4 _ rfl
    have y4 := block_free (k := 4) M1.out.z
    have z5 := block_cell M1.out.z 5 _ rfl
    have y5 := block_free (k := 5) M1.out.z
    go_wp2_with fail
    refine bodyPost_ret (v := .tuple #[.agg #[.string ⟨#[]⟩, .int .i64 0, .int .i64 0, .slice none 0 0, .slice none 0 0, .slice none 0 0], .int .i64 ce]) (by simp [results, Try.results35, go_sem, z0, z1, z2, z3, z4, z5]) rfl ⟨⟨_, rfl, act0_new _ _⟩, ((((((M1.out.setZ 0 _).setZ 1 _).setZ 2 _).setZ 3 _).setZ 4 _).setZ 5 _).g⟩
end Go.Proofs.Ytgkhhfojioepgaa
