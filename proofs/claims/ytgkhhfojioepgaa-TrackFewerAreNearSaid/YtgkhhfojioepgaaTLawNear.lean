/- Of the samples that Simple and Fewest leave out each one is near to where At of those that are kept is: the walk. -/
import Derived.Test.YtgkhhfojioepgaaBaseD
import Derived.Test.YtgkhhfojioepgaaTOnly
import Derived.Test.YtgkhhfojioepgaaTNearS
namespace Go.Proofs.Ytgkhhfojioepgaa
open Go.RowKit
set_option linter.unusedSimpArgs false
set_option linter.unusedVariables false

set_option maxRecDepth 100000 in
set_option maxHeartbeats 6400000 in
theorem near_law (a : Act) (most : Int) (w : World) (ha : ActAt w a) (_hc : a.ss.length ≤ a.sc) :
    Calls Try.prog 11 #[a.val, .int .i64 most] w fun e w' => e = .returned (.bool true) ∧ w.grownBy w' none := by
  obtain ⟨E, hwe⟩ : ∃ E, thinE a most 5000 = E := ⟨_, rfl⟩
  obtain ⟨D, hwd⟩ : ∃ D, thinE a most 300 = D := ⟨_, rfl⟩
  have HWE := Lib.hid hwe; have HWD := Lib.hid hwd; have HA := Lib.hid ha
  clear hwe hwd ha
  have KP : Hid (E = 0 → D = 0 → a.ss.length ≠ 0 → ∀ l1 l2, SimR a most E l1 → FewR a most D l2 → (0 ≤ most ∧ most ≤ 100000000) ∧ chkE a = 0 ∧ KeptL a.ss most l1 ∧ KeptL a.ss most l2 ∧ l2.length ≤ l1.length) := fun h1 h2 hn l1 l2 s1 s2 => by
    subst h1; subst h2
    obtain ⟨hc, m0, m1, -⟩ := thin_ok HWE.out
    have HS := sok_of (chk_ok hc)
    have hM : 0 ≤ most * most := (sq_most m0 m1).1
    exact ⟨⟨m0, m1⟩, hc, sim_kept HS hM (by omega) s1, few_kept (by omega) s2, few_le HS hM (by omega) s1 s2⟩
  obtain ⟨nm, sp, st, so, sc, ss, lo, lc, ls, to_, tc, ts⟩ := a
  simp only [Act.val]
  go_enter Try.func11, Try.ntmps11
  have GB : Hid (w.grownBy (w.alloc (.cells #[.string nm, .int .i64 sp, .int .i64 st, .slice so ss.length sc, .slice lo ls.length lc, .slice to_ ts.length tc] 26)) none) := World.grownBy_alloc _ _ _
  have BA : Hid ((w.alloc (.cells #[.string nm, .int .i64 sp, .int .i64 st, .slice so ss.length sc, .slice lo ls.length lc, .slice to_ ts.length tc] 26)).heap[w.heap.size]? = some (.cells #[.string nm, .int .i64 sp, .int .i64 st, .slice so ss.length sc, .slice lo ls.length lc, .slice to_ ts.length tc] 26 (0, 0))) := heap_alloc_new w _
  go_wp2_with fail
  refine (Simple_any ⟨nm, sp, st, so, sc, ss, lo, lc, ls, to_, tc, ts⟩ most _ (HA.out.grown GB.out) HWE).mono ?_; rintro x w1 ⟨⟨v1, l1, rfl, hr1, ho1⟩, hg1⟩
  have HO1 := Lib.hid ho1; have HR1 := Lib.hid hr1
  replace BA := Lib.hid (block_at BA.out hg1 (by simp))
  replace GB := Lib.hid (grown_trans GB.out hg1)
  clear ho1 hg1 hr1
  have a0 := block_cell BA.out 0 _ rfl
  have a1 := block_cell BA.out 1 _ rfl
  have a2 := block_cell BA.out 2 _ rfl
  have a3 := block_cell BA.out 3 _ rfl
  have a4 := block_cell BA.out 4 _ rfl
  have a5 := block_cell BA.out 5 _ rfl
  go_wp2_with fail
  refine (Fewest_any ⟨nm, sp, st, so, sc, ss, lo, lc, ls, to_, tc, ts⟩ most _ (HA.out.grown GB.out) HWD).mono ?_; rintro x w2 ⟨⟨v2, l2, rfl, hr2, ho2⟩, hg2⟩
  have h1 := HO1.out.kept hg2 (by cases v1.ownBlock <;> simp)
  obtain ⟨n1, p1, c1, rfl, i1⟩ := own_nat h1
  obtain ⟨n2, p2, c2, rfl, i2⟩ := own_nat ho2
  have I1 := Lib.hid i1; have I2 := Lib.hid i2
  have N1 := Lib.hid n1; have N2 := Lib.hid n2
  have HR2 := Lib.hid hr2
  replace BA := Lib.hid (block_at BA.out hg2 (by simp))
  replace GB := Lib.hid (grown_trans GB.out hg2)
  clear a0 a1 a2 a3 a4 a5 h1 ho2 hr2 hg2 i1 i2 n1 n2 HO1
  by_cases hE : E = 0
  case neg =>
    have e1 : (E != 0) = true := by simpa using hE
    clear hE KP
    go_wp2_with fail
    refine (told_any _).mono ?_; rintro x w7 ⟨rfl, hg7⟩
    go_wp2_with fail
    go_ret
    exact ⟨by first | rfl | simp, grown_trans GB.out hg7⟩
  by_cases hD : D = 0
  case neg =>
    have e1 : (E != 0) = false := by simpa using hE
    have e2 : (D != 0) = true := by simpa using hD
    clear hE hD KP
    go_wp2_with fail
    refine (told_any _).mono ?_; rintro x w7 ⟨rfl, hg7⟩
    go_wp2_with fail
    go_ret
    exact ⟨by first | rfl | simp, grown_trans GB.out hg7⟩
  subst hE; subst hD
  have a3 := block_cell BA.out 3 _ rfl
  by_cases h0 : ss.length = 0
  case pos =>
    have e3 : ((ss.length : Int) == 0) = true := by simp [h0]
    clear h0 KP
    go_wp2_with fail
    refine (told_any _).mono ?_; rintro x w7 ⟨rfl, hg7⟩
    go_wp2_with fail
    go_ret
    exact ⟨by first | rfl | simp, grown_trans GB.out hg7⟩
  obtain ⟨⟨m0, m1⟩, hce, hk1, hk2, hle⟩ := KP.out rfl rfl h0 l1 l2 HR1.out HR2.out
  have HCE := Lib.hid hce; have HK1 := Lib.hid hk1; have HK2 := Lib.hid hk2
  obtain ⟨g1, rfl, j1⟩ := ints_of I1.out (kept_pos hk1)
  obtain ⟨g2, rfl, j2⟩ := ints_of I2.out (kept_pos hk2)
  have J1 := Lib.hid j1; have J2 := Lib.hid j2
  have e3 : ((ss.length : Int) == 0) = false := beq_eq_false_iff_ne.2 (by omega)
  have e4 : decide ((l1.length : Int) < (l2.length : Int)) = false := by simp; omega
  have e5 : decide (l1.length < l2.length) = false := by simp; omega
  have hsl : (ss.length : Int) ≤ 20000 := (chk_ok hce).sl
  have hn1 : 1 ≤ ss.length := by omega
  have hM := sq_most m0 m1
  obtain ⟨M, hMM⟩ : ∃ M, most * most = M := ⟨_, rfl⟩
  rw [hMM] at hM
  have HMM := Lib.hid hMM
  have KA : Hid (∀ l, KeptL ss most l → ∀ m, m < ss.length → ∃ x, atO (keptA ⟨nm, sp, st, so, sc, ss, lo, lc, ls, to_, tc, ts⟩ l) (smpD ss m).t = (x, 0) ∧ sqP x (smpD ss m) ≤ M) := fun l hl m hm => by
    obtain ⟨x, h1, h2⟩ := at_kept (a := ⟨nm, sp, st, so, sc, ss, lo, lc, ls, to_, tc, ts⟩) HCE.out (by rw [HMM.out]; exact hM.1) hn1 hl hm
    exact ⟨x, h1, by rw [← HMM.out]; exact h2⟩
  have rM : IntKind.i64.wrap (most * most) = M := by rw [hMM]; exact IntWalk.i64_in _ (by omega)
  clear j1 j2 hk1 hk2 hle hce I1 I2 HR1 HR2 KP HWE HWD h0 hMM
  go_upto_region 8 with (fail)
  obtain ⟨V0, hV⟩ : ∃ V, w2.alloc (.cells #[.slice (some ⟨g1, 0, none⟩) l1.length c1, .slice (some ⟨g2, 0, none⟩) l2.length c2] 48) = V := ⟨_, rfl⟩
  have gV : w2.grownBy V0 none := by rw [← hV]; exact World.grownBy_alloc _ _ _
  have BL : Hid (V0.heap[w2.heap.size]? = some (.cells #[.slice (some ⟨g1, 0, none⟩) l1.length c1, .slice (some ⟨g2, 0, none⟩) l2.length c2] 48 (0, 0))) := by rw [← hV]; exact heap_alloc_new _ _
  rw [hV]
  replace BA := Lib.hid (block_at BA.out gV (by simp))
  replace GB := Lib.hid (grown_trans GB.out gV)
  replace J1 := Lib.hid (J1.out.grown gV)
  replace J2 := Lib.hid (J2.out.grown gV)
  clear hV gV a3
  generalize w2.heap.size = lb at *
  obtain ⟨b, off, rfl⟩ := so_of HA.out.hs (fun e => by have e2 : ss = [] := e; rw [e2] at hn1; simp at hn1)
  have HSM := Lib.hid (HA.out.hs.grown GB.out)
  go_loopw [52] (fun iv wr => ∃ (k : Nat), iv = .int .i64 k ∧ k ≤ 2 ∧ Hid (V0.grownBy wr none)) (fun iv _ => 2 - (intOf iv).toNat)
  case atStart => exact ⟨0, rfl, by omega, grown_refl _ _⟩
  case round =>
    obtain ⟨k, rfl, hk, hG⟩ := hrel
    by_cases hlt : k < 2
    · have HX : ∃ l g c, KeptL ss most l ∧ IntsAt V0 (some ⟨g, 0, none⟩) (intsN l) ∧ V0.cell? ⟨lb, k, none⟩ = some (.slice (some ⟨g, 0, none⟩) l.length c) ∧ l.length ≤ 9223372036854775807 := by
        rcases Nat.lt_or_ge k 1 with q | q
        · obtain rfl : k = 0 := by omega
          exact ⟨l1, g1, c1, HK1.out, J1.out, block_cell BL.out 0 _ rfl, N1.out⟩
        · obtain rfl : k = 1 := by omega
          exact ⟨l2, g2, c2, HK2.out, J2.out, block_cell BL.out 1 _ rfl, N2.out⟩
      obtain ⟨l, g, c, hkl, hij, hcl, hll⟩ := HX
      have HKL := Lib.hid hkl
      have KO : Hid (∀ V : World, V0.grownBy V none → Calls Try.prog 30 #[.agg #[.string nm, .int .i64 sp, .int .i64 st, .slice (some ⟨b, off, none⟩) ss.length sc, .slice none 0 0, .slice to_ ts.length tc], .slice (some ⟨g, 0, none⟩) l.length c] V fun e w' => (∃ s1 k1 o1 d1 t1 f1, e = .returned (.tuple #[.agg #[.string nm, .int .i64 sp, .int .i64 st, .slice s1 l.length k1, .slice o1 0 d1, .slice t1 ts.length f1], .int .i64 0]) ∧ ActAt w' ⟨nm, sp, st, s1, k1, l.map (smpD ss), o1, d1, [], t1, f1, ts⟩ ∧ ActFar ⟨nm, sp, st, s1, k1, l.map (smpD ss), o1, d1, [], t1, f1, ts⟩ V.heap.size) ∧ V.grownBy w' none) := fun V hV => by
        have hA := HA.out.grown (grown_trans GB.out hV)
        have hN : ActAt V (noLaps ⟨nm, sp, st, some ⟨b, off, none⟩, sc, ss, lo, lc, ls, to_, tc, ts⟩) := ⟨hA.ns, hA.sl, by show ((0 : Nat) : Int) ≤ _; omega, hA.tl, hA.hs, ⟨fun _ => rfl, fun a h => by simp [noLaps] at h, fun a h => by simp [noLaps] at h, fun i h => absurd h (Nat.not_lt_zero i)⟩, hA.ht⟩
        have q := Only_new _ (some ⟨g, 0, none⟩) c (intsN l) (by rw [intsN_len]; omega) V hN (hij.grown hV) (Lib.hid (only_kept HCE.out hn1 hkl))
        rw [intsN_len] at q
        refine q.mono ?_
        rintro e w' ⟨⟨v, rfl, s1, k1, o1, d1, t1, f1, rfl, h1, h2⟩, h3⟩
        refine ⟨⟨s1, k1, o1, d1, t1, f1, ?_, h1, h2⟩, h3⟩
        show Ending.returned (.tuple #[.agg #[.string nm, .int .i64 sp, .int .i64 st, .slice s1 (l.map (smpD ss)).length k1, .slice o1 0 d1, .slice t1 ts.length f1], .int .i64 0]) = _
        rw [List.length_map]
      have hcl2 := grown_cell hG.out hcl
      have BR := Lib.hid (block_at BA.out hG.out (by simp))
      have a0 := block_cell BR.out 0 _ rfl
      have a1 := block_cell BR.out 1 _ rfl
      have a2 := block_cell BR.out 2 _ rfl
      have a3 := block_cell BR.out 3 _ rfl
      have a4 := block_cell BR.out 4 _ rfl
      have a5 := block_cell BR.out 5 _ rfl
      have k0 : (0 : Int) ≤ (k : Int) := by omega
      have k1 : (k : Int) < 2 := by omega
      have rk : IntKind.i64.wrap ((k : Int) + 1) = (k : Int) + 1 := IntWalk.i64_in _ (by omega)
      have hne : w.heap.size ≠ wr.heap.size := by have := lt_of_block BR.out; omega
      clear hcl hij hkl
      go_upto_region 11 with (fail)
      obtain ⟨V1, hV⟩ : ∃ V, wr.alloc (.cells #[.string nm, .int .i64 sp, .int .i64 st, .slice (some ⟨b, off, none⟩) ss.length sc, .slice lo ls.length lc, .slice to_ ts.length tc] 26) = V := ⟨_, rfl⟩
      have G1 : Hid (wr.grownBy V1 none) := by show _; rw [← hV]; exact World.grownBy_alloc _ _ _
      have BT : Hid (V1.heap[wr.heap.size]? = some (.cells #[.string nm, .int .i64 sp, .int .i64 st, .slice (some ⟨b, off, none⟩) ss.length sc, .slice lo ls.length lc, .slice to_ ts.length tc] 26 (0, 0))) := by show _; rw [← hV]; exact heap_alloc_new _ _
      rw [hV]
      clear hV hcl2 a0 a1 a2 a3 a4 a5
      have y4 := block_free (k := 4) BT.out
      have z4 := block_cell BT.out 4 _ rfl
      go_upto_region 12 with (fail)
      replace G1 := Lib.hid (grown_far G1.out (Nat.le_refl _) 4 (.slice none 0 0))
      replace BT := Lib.hid (block_set (k := 4) BT.out (.slice none 0 0))
      generalize V1.setCell ⟨wr.heap.size, 4, none⟩ (.slice none 0 0) = V2 at *
      clear y4 z4
      have z0 := block_cell BT.out 0 _ rfl
      have z1 := block_cell BT.out 1 _ rfl
      have z2 := block_cell BT.out 2 _ rfl
      have z3 := block_cell BT.out 3 _ rfl
      have z4 := block_cell BT.out 4 _ rfl
      have z5 := block_cell BT.out 5 _ rfl
      go_wp2_with fail
      refine (KO.out _ (grown_trans hG.out G1.out)).mono ?_; rintro e w3 ⟨⟨s1, k1, o1, d1, t1, f1, rfl, hact, hfar⟩, hg3⟩
      have HT := Lib.hid hact; have HF := Lib.hid hfar
      have HSZ : Hid (wr.heap.size < V2.heap.size) := lt_of_block BT.out
      replace G1 := Lib.hid (grown_trans G1.out hg3)
      replace BT := Lib.hid (block_at BT.out hg3 (by simp))
      clear z0 z1 z2 z3 z4 z5 KO hact hfar hg3
      have z0 := block_cell BT.out 0 _ rfl
      have z1 := block_cell BT.out 1 _ rfl
      have z2 := block_cell BT.out 2 _ rfl
      have z3 := block_cell BT.out 3 _ rfl
      have z4 := block_cell BT.out 4 _ rfl
      have z5 := block_cell BT.out 5 _ rfl
      have y0 := block_free (k := 0) BT.out
      have y1 := block_free (k := 1) BT.out
      have y2 := block_free (k := 2) BT.out
      have y3 := block_free (k := 3) BT.out
      have y4 := block_free (k := 4) BT.out
      have y5 := block_free (k := 5) BT.out
      go_upto_region 13 with (fail)
      obtain ⟨V4, hV⟩ : ∃ V, ((((((w3.setCell ⟨wr.heap.size, 0, none⟩ (.string nm)).setCell ⟨wr.heap.size, 1, none⟩ (.int .i64 sp)).setCell ⟨wr.heap.size, 2, none⟩ (.int .i64 st)).setCell ⟨wr.heap.size, 3, none⟩ (.slice s1 l.length k1)).setCell ⟨wr.heap.size, 4, none⟩ (.slice o1 0 d1)).setCell ⟨wr.heap.size, 5, none⟩ (.slice t1 ts.length f1)) = V := ⟨_, rfl⟩
      have G4 : Hid (wr.grownBy V4 none) := by show _; rw [← hV]; exact grown_far (grown_far (grown_far (grown_far (grown_far (grown_far G1.out (Nat.le_refl _) _ _) (Nat.le_refl _) _ _) (Nat.le_refl _) _ _) (Nat.le_refl _) _ _) (Nat.le_refl _) _ _) (Nat.le_refl _) _ _
      have B4 : Hid (V4.heap[wr.heap.size]? = some (.cells #[.string nm, .int .i64 sp, .int .i64 st, .slice s1 l.length k1, .slice o1 0 d1, .slice t1 ts.length f1] 26 (0, 0))) := by show _; rw [← hV]; exact block_set (block_set (block_set (block_set (block_set (block_set BT.out _) _) _) _) _) _
      have H4 : Hid (ActAt V4 ⟨nm, sp, st, s1, k1, l.map (smpD ss), o1, d1, [], t1, f1, ts⟩) := by
        show _
        rw [← hV]
        have hs := HSZ.out
        refine HT.out.far HF.out (fun p hp => ?_)
        iterate 6 rw [World.cell?_setCell_other _ _ _ _ (fun e => by subst e; simp at hp; omega)]
      rw [hV]
      clear hV z0 z1 z2 z3 z4 z5 y0 y1 y2 y3 y4 y5 BT HT HF G1 HSZ
      have BA4 := Lib.hid (block_at BR.out G4.out (by simp))
      have GV := Lib.hid (grown_trans hG.out G4.out)
      have a3 := block_cell BA4.out 3 _ rfl
      clear G4 BR hG
      generalize wr.heap.size = tb at *
      go_wp2_with fail
      clear a3
      go_loopw [69] (fun iv wi => ∃ (m : Nat), iv = .int .i64 m ∧ m ≤ ss.length ∧ Hid (V4.grownBy wi none)) (fun iv _ => ss.length - (intOf iv).toNat)
      case atStart => exact ⟨0, rfl, Nat.zero_le _, grown_refl _ _⟩
      case round =>
        obtain ⟨m, rfl, hm, hGi⟩ := hrel
        by_cases hlm : m < ss.length
        · obtain ⟨q0, q1, q2, q3, q4, q5, q6⟩ := (HSM.out.grown (grown_trans GV.out hGi.out)).cells _ rfl m hlm
          rw [← smpD_at hlm] at q0 q1 q2 q3 q4 q5 q6
          obtain ⟨x, hx, hsq⟩ := KA.out l HKL.out m hlm
          obtain ⟨u, hu⟩ : ∃ u, smpD ss m = u := ⟨_, rfl⟩
          rw [hu] at q0 q1 q2 q3 q4 q5 q6 hx hsq
          simp only at q0 q1 q2 q3 q4 q5 q6
          have hub : inPlane u := by
            have q := ((sok_of (chk_ok HCE.out)).inn m hlm).2.2.1
            rw [← hu]; exact q
          have KT : Hid (∀ V : World, V4.grownBy V none → Calls Try.prog 15 #[.agg #[.string nm, .int .i64 sp, .int .i64 st, .slice s1 l.length k1, .slice o1 0 d1, .slice t1 ts.length f1], .int .i64 u.t] V fun e w' => e = .returned (.tuple #[smpVal x, .int .i64 0]) ∧ V.grownBy w' none) := fun V hV => by
            have q := At_any ⟨nm, sp, st, s1, k1, l.map (smpD ss), o1, d1, [], t1, f1, ts⟩ u.t V (H4.out.grown hV) (x := x) (E := 0) (Lib.hid hx)
            have e : (Act.val ⟨nm, sp, st, s1, k1, l.map (smpD ss), o1, d1, [], t1, f1, ts⟩) = .agg #[.string nm, .int .i64 sp, .int .i64 st, .slice s1 l.length k1, .slice o1 0 d1, .slice t1 ts.length f1] := by
              show Value.agg #[.string nm, .int .i64 sp, .int .i64 st, .slice s1 (l.map (smpD ss)).length k1, .slice o1 0 d1, .slice t1 ts.length f1] = _
              rw [List.length_map]
            rw [e] at q
            exact q
          obtain ⟨d, hd⟩ : ∃ d, x.x - u.x = d := ⟨_, rfl⟩
          obtain ⟨e, he⟩ : ∃ e, x.y - u.y = e := ⟨_, rfl⟩
          have hs2 : d * d + e * e ≤ M := by
            have q : sqP x u = d * d + e * e := by
              unfold sqP
              rw [show u.x - x.x = -d by omega, show u.y - x.y = -e by omega, Int.neg_mul_neg, Int.neg_mul_neg]
            rw [← q]; exact hsq
          have hde := sq_small hs2 hM.2
          obtain ⟨D2, hD2⟩ : ∃ D2, d * d = D2 := ⟨_, rfl⟩
          obtain ⟨E2, hE2⟩ : ∃ E2, e * e = E2 := ⟨_, rfl⟩
          have hDb : 0 ≤ D2 ∧ 0 ≤ E2 := by
            refine ⟨?_, ?_⟩
            · rw [← hD2]; rcases Int.le_total 0 d with q | q
              · exact Int.mul_nonneg q q
              · exact Int.mul_nonneg_of_nonpos_of_nonpos q q
            · rw [← hE2]; rcases Int.le_total 0 e with q | q
              · exact Int.mul_nonneg q q
              · exact Int.mul_nonneg_of_nonpos_of_nonpos q q
          rw [hD2, hE2] at hs2
          have r1 : IntKind.i64.wrap (x.x - u.x) = d := by rw [hd]; exact IntWalk.i64_in _ (by omega)
          have r2 : IntKind.i64.wrap (x.y - u.y) = e := by rw [he]; exact IntWalk.i64_in _ (by omega)
          have r3 : IntKind.i64.wrap (d * d) = D2 := by rw [hD2]; exact IntWalk.i64_in _ (by omega)
          have r4 : IntKind.i64.wrap (e * e) = E2 := by rw [hE2]; exact IntWalk.i64_in _ (by omega)
          have r5 : IntKind.i64.wrap (D2 + E2) = D2 + E2 := IntWalk.i64_in _ (by omega)
          have r6 : decide (M < D2 + E2) = false := by simp; omega
          have rm : IntKind.i64.wrap ((m : Int) + 1) = (m : Int) + 1 := IntWalk.i64_in _ (by omega)
          have i1 : (m : Int) < (ss.length : Int) := by omega
          have i2 : (0 : Int) ≤ (m : Int) := by omega
          have HLM := Lib.hid hlm
          clear hd he hx hsq hu hub hD2 hE2 hs2 hde hDb hm
          go_upto_region 18 with (fail)
          obtain ⟨V5, hV⟩ : ∃ V, wr.alloc (.cells #[.int .i64 u.t, .int .i64 u.x, .int .i64 u.y, .int .i64 u.z, .int .i64 u.p, .int .i64 u.q, .int .i64 u.s] 28) = V := ⟨_, rfl⟩
          have G5 : Hid (V4.grownBy V5 none) := by show _; rw [← hV]; exact grown_trans hGi.out (World.grownBy_alloc _ _ _)
          have BS : Hid (V5.heap[wr.heap.size]? = some (.cells #[.int .i64 u.t, .int .i64 u.x, .int .i64 u.y, .int .i64 u.z, .int .i64 u.p, .int .i64 u.q, .int .i64 u.s] 28 (0, 0))) := by show _; rw [← hV]; exact heap_alloc_new _ _
          rw [hV]
          clear hV q0 q1 q2 q3 q4 q5 q6 hGi
          generalize wr.heap.size = sb at *
          have B5 := Lib.hid (block_at B4.out G5.out (by simp))
          have z0 := block_cell B5.out 0 _ rfl
          have z1 := block_cell B5.out 1 _ rfl
          have z2 := block_cell B5.out 2 _ rfl
          have z3 := block_cell B5.out 3 _ rfl
          have z4 := block_cell B5.out 4 _ rfl
          have z5 := block_cell B5.out 5 _ rfl
          have c0 := block_cell BS.out 0 _ rfl
          go_wp2_with fail
          refine (KT.out _ G5.out).mono ?_; rintro e9 w6 ⟨rfl, hg6⟩
          simp only [smpVal]
          replace BS := Lib.hid (block_at BS.out hg6 (by simp))
          replace G5 := Lib.hid (grown_trans G5.out hg6)
          clear z0 z1 z2 z3 z4 z5 c0 hg6 B5 KT
          go_upto_region 19 with (fail)
          obtain ⟨V7, hV⟩ : ∃ V, w6.alloc (.cells #[.int .i64 x.t, .int .i64 x.x, .int .i64 x.y, .int .i64 x.z, .int .i64 x.p, .int .i64 x.q, .int .i64 x.s] 28) = V := ⟨_, rfl⟩
          have G7 : Hid (V4.grownBy V7 none) := by show _; rw [← hV]; exact grown_trans G5.out (World.grownBy_alloc _ _ _)
          have BX : Hid (V7.heap[w6.heap.size]? = some (.cells #[.int .i64 x.t, .int .i64 x.x, .int .i64 x.y, .int .i64 x.z, .int .i64 x.p, .int .i64 x.q, .int .i64 x.s] 28 (0, 0))) := by show _; rw [← hV]; exact heap_alloc_new _ _
          have BS7 : Hid (V7.heap[sb]? = some (.cells #[.int .i64 u.t, .int .i64 u.x, .int .i64 u.y, .int .i64 u.z, .int .i64 u.p, .int .i64 u.q, .int .i64 u.s] 28 (0, 0))) := by show _; rw [← hV]; exact block_at (row := none) BS.out (World.grownBy_alloc _ _ _) (by simp)
          rw [hV]
          clear hV G5 BS
          generalize w6.heap.size = xb at *
          have x1 := block_cell BX.out 1 _ rfl
          have x2 := block_cell BX.out 2 _ rfl
          have c1 := block_cell BS7.out 1 _ rfl
          have c2 := block_cell BS7.out 2 _ rfl
          go_quiet (fail)
          have G8 : Hid (V4.grownBy (V7.drewN nq) none) := grown_trans G7.out (grown_drewN _ _ _)
          generalize V7.drewN nq = V8 at *
          go_wp2_with fail
          go_roundw
          case rel => exact ⟨m + 1, by go_num, HLM.out, G8⟩
          case measure => have := HLM.out; simp [intOf]; omega
        · obtain rfl : m = ss.length := by omega
          go_wp2_with fail
          go_roundw
          case rel => exact ⟨k + 1, by go_num, by omega, grown_trans GV.out hGi.out⟩
          case measure => simp [intOf]; omega
    · obtain rfl : k = 2 := by omega
      go_wp2_with fail
      refine (told_any _).mono ?_; rintro x w7 ⟨rfl, hg7⟩
      go_wp2_with fail
      go_ret
      exact ⟨by first | rfl | simp, grown_trans GB.out (grown_trans hG.out hg7)⟩

end Go.Proofs.Ytgkhhfojioepgaa
