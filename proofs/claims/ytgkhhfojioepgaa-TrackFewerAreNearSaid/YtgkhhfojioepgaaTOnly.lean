/- The contract of Only, for any activity and any list. -/
import Derived.Test.YtgkhhfojioepgaaTOnlyP
import Derived.Test.YtgkhhfojioepgaaBaseA
namespace Go.Proofs.Ytgkhhfojioepgaa
open Go.RowKit
set_option linter.unusedSimpArgs false
set_option linter.unusedVariables false

attribute [local go_sem] Oper.semAt_some

set_option maxRecDepth 100000 in
set_option maxHeartbeats 6400000 in
theorem Only_new (a : Act) (li : Option Addr) (lic : Nat) (l : List Int) (hll : (l.length : Int) ≤ 9223372036854775807) (w : World) (ha : ActAt w a) (hi : IntsAt w li l) {c : Act} {E : Int} (hE : Hid (onlyO a l = (c, E))) :
    Calls Try.prog 30 #[a.val, .slice li l.length lic] w fun e w' => (∃ v, e = .returned (.tuple #[v, .int .i64 E]) ∧ ActNew w.heap.size w' v c) ∧ w.grownBy w' none := by
  obtain ⟨ce, hce⟩ : ∃ e, chkE a = e := ⟨_, rfl⟩
  have hv := hE.out
  unfold onlyO at hv
  rw [hce] at hv
  have HCE := Lib.hid hce; have HA := Lib.hid ha; have HI := Lib.hid hi
  by_cases d1 : ce = 0
  · rw [if_pos d1] at hv
    subst d1
    have hok := chk_ok hce
    have HOK := Lib.hid hok
    have hl : (a.ss.length : Int) ≤ 20000 := hok.sl
    have HS := Lib.hid (sok_of hok)
    obtain ⟨nm, sp, st, so, sc, ss, lo, lc, ls, to_, tc, ts⟩ := a
    simp only [Act.val] at *
    have HV := Lib.hid hv
    obtain ⟨i0, hi0, hz0, hz1, hz2⟩ := info_parts cinfo_smps
    have HI0 := Lib.hid hi0; have HZ0 := Lib.hid hz0; have HZ1 := Lib.hid hz1; have HZ2 := Lib.hid hz2
    clear hi0 hz0 hz1 hz2 hE hce hok ha hi hv
    have M0 := Lib.hid (ClB.new w #[.string nm, .int .i64 sp, .int .i64 st, .slice so ss.length sc, .slice lo ls.length lc, .slice to_ ts.length tc] #[.string ⟨#[]⟩, .int .i64 0, .int .i64 0, .slice none 0 0, .slice none 0 0, .slice none 0 0])
    go_enter Try.func30, Try.ntmps30
    go_wp2_with fail
    refine (check_any ⟨nm, sp, st, so, sc, ss, lo, lc, ls, to_, tc, ts⟩ _ (HA.out.grown M0.out.g) HCE).mono ?_; rintro e w1 ⟨rfl, hg1⟩
    have M1 := Lib.hid (M0.out.grown hg1)
    have L0 : Hid (w.heap.size + 2 ≤ ((w.alloc (.cells #[.string nm, .int .i64 sp, .int .i64 st, .slice so ss.length sc, .slice lo ls.length lc, .slice to_ ts.length tc] 26)).alloc (.cells #[.string ⟨#[]⟩, .int .i64 0, .int .i64 0, .slice none 0 0, .slice none 0 0, .slice none 0 0] 26)).heap.size) := M0.out.lt
    have G01 := Lib.hid hg1
    clear hg1
    go_wp2_with fail
    go_loopw [7] (fun iv wr => ∃ (k : Nat), iv = .int .i64 ((k : Int) + 1) ∧ k ≤ l.length ∧ Hid (∀ j, j < k → j + 1 < l.length → nthI l j < nthI l (j + 1)) ∧ Hid (ClB w #[.string nm, .int .i64 sp, .int .i64 st, .slice so ss.length sc, .slice lo ls.length lc, .slice to_ ts.length tc] #[.string ⟨#[]⟩, .int .i64 0, .int .i64 0, .slice none 0 0, .slice none 0 0, .slice none 0 0] wr) ∧ Hid (((w.alloc (.cells #[.string nm, .int .i64 sp, .int .i64 st, .slice so ss.length sc, .slice lo ls.length lc, .slice to_ ts.length tc] 26)).alloc (.cells #[.string ⟨#[]⟩, .int .i64 0, .int .i64 0, .slice none 0 0, .slice none 0 0, .slice none 0 0] 26)).grownBy wr none))
      (fun iv _ => l.length - (intOf iv).toNat)
    case atStart => exact ⟨0, by go_num, Nat.zero_le _, fun j hj => absurd hj (by omega), M1, G01⟩
    case round =>
      obtain ⟨k, rfl, hk, hR, hM, hG⟩ := hrel
      obtain ⟨k1, hk1⟩ : ∃ k1, k1 = k + 1 := ⟨_, rfl⟩
      have ek : (k : Int) + 1 = (k1 : Int) := by omega
      rw [ek]
      have HK1 := Lib.hid hk1
      by_cases hlt : k1 < l.length
      · obtain ⟨b2, o2, rfl, hcl⟩ := (HI.out.grown hM.out.g).at (by omega)
        have c1 := hcl k1 hlt
        have c0 := hcl k (by omega)
        have HORD : Hid (∀ p q, nthI l k1 = p → nthI l k = q → (p ≤ q → ¬ Rises l) ∧ (¬ p ≤ q → ∀ j, j < k1 → j + 1 < l.length → nthI l j < nthI l (j + 1))) := fun p q hp hq => by
          refine ⟨fun h hr => ?_, fun h j hj hj2 => ?_⟩
          · have := hr k (by omega); rw [← hk1, hp, hq] at this; omega
          · rcases Nat.lt_or_ge j k with q1 | q1
            · exact hR.out j q1 hj2
            · obtain rfl : j = k := by omega
              rw [← hk1, hp, hq]; omega
        obtain ⟨p, hp⟩ : ∃ p, nthI l k1 = p := ⟨_, rfl⟩
        obtain ⟨q, hq⟩ : ∃ q, nthI l k = q := ⟨_, rfl⟩
        have HO2 := Lib.hid (HORD.out p q hp hq)
        rw [hp] at c1; rw [hq] at c0
        have rk : IntKind.i64.wrap ((k1 : Int) - 1) = (k : Int) := by rw [show (k1 : Int) - 1 = (k : Int) by omega]; exact IntWalk.i64_in _ (by omega)
        have i1 : (k1 : Int) < (l.length : Int) := by omega
        have i2 : (k : Int) < (l.length : Int) := by omega
        have i3 : (0 : Int) ≤ (k : Int) := by omega
        have i4 : (0 : Int) ≤ (k1 : Int) := by omega
        have i5 : k < l.length := by omega
        clear hk1 hp hq HORD hcl hR
        by_cases hpq : p ≤ q
        · have hnr := HO2.out.1 hpq
          have hdec : decide (p ≤ q) = true := by simpa using hpq
          have hq2 := HV.out
          rw [if_neg hnr] at hq2
          simp only [Prod.mk.injEq] at hq2
          obtain ⟨rfl, rfl⟩ := hq2
          clear HV hnr HO2
          go_wp2_with fail
          go_quiet (fail)
          have M2 : Hid (ClB w #[.string nm, .int .i64 sp, .int .i64 st, .slice so ss.length sc, .slice lo ls.length lc, .slice to_ ts.length tc] #[.string ⟨#[]⟩, .int .i64 0, .int .i64 0, .slice none 0 0, .slice none 0 0, .slice none 0 0] (wr.drewN nq)) := hM.out.grown (grown_drewN wr none nq)
          generalize wr.drewN nq = V1 at *
          have z0 := block_cell M2.out.z 0 _ rfl
          have y0 := block_free (k := 0) M2.out.z
          have z1 := block_cell M2.out.z 1 _ rfl
          have y1 := block_free (k := 1) M2.out.z
          have z2 := block_cell M2.out.z 2 _ rfl
          have y2 := block_free (k := 2) M2.out.z
          have z3 := block_cell M2.out.z 3 _ rfl
          have y3 := block_free (k := 3) M2.out.z
          have z4 := block_cell M2.out.z 4 _ rfl
          have y4 := block_free (k := 4) M2.out.z
          have z5 := block_cell M2.out.z 5 _ rfl
          have y5 := block_free (k := 5) M2.out.z
          go_wp2_with fail
          refine bodyPost_ret (v := .tuple #[.agg #[.string ⟨#[]⟩, .int .i64 0, .int .i64 0, .slice none 0 0, .slice none 0 0, .slice none 0 0], .int .i64 10]) (by simp [results, Try.results30, go_sem, z0, z1, z2, z3, z4, z5]) rfl ⟨⟨_, rfl, act0_new _ _⟩, ((((((M2.out.setZ 0 _).setZ 1 _).setZ 2 _).setZ 3 _).setZ 4 _).setZ 5 _).g⟩
        · have hdec : decide (p ≤ q) = false := by simpa using hpq
          have HR2 := Lib.hid (HO2.out.2 hpq)
          clear HO2
          go_wp2_with fail
          go_quiet (fail)
          have M2 : Hid (ClB w #[.string nm, .int .i64 sp, .int .i64 st, .slice so ss.length sc, .slice lo ls.length lc, .slice to_ ts.length tc] #[.string ⟨#[]⟩, .int .i64 0, .int .i64 0, .slice none 0 0, .slice none 0 0, .slice none 0 0] (wr.drewN nq)) := hM.out.grown (grown_drewN wr none nq)
          have G2 : Hid (((w.alloc (.cells #[.string nm, .int .i64 sp, .int .i64 st, .slice so ss.length sc, .slice lo ls.length lc, .slice to_ ts.length tc] 26)).alloc (.cells #[.string ⟨#[]⟩, .int .i64 0, .int .i64 0, .slice none 0 0, .slice none 0 0, .slice none 0 0] 26)).grownBy (wr.drewN nq) none) := grown_trans hG.out (grown_drewN wr none nq)
          go_wp2_with fail
          go_roundw
          case rel => exact ⟨k1, by go_num, by omega, HR2, M2, G2⟩
          case measure => have := HK1.out; simp [intOf]; omega
      · have HRI : Hid (Rises l) := fun i hi2 => hR.out i (by omega) hi2
        clear hR hk1
        go_wp2_with fail
        go_loopw [8, 36] (fun sv8 iv wr => ∃ (k : Nat) (v : Value), v = sv8 ∧ iv = .int .i64 k ∧ k ≤ l.length ∧ Hid (∀ j, j < k → 0 ≤ nthI l j ∧ nthI l j < (ss.length : Int)) ∧ Hid (ClB w #[.string nm, .int .i64 sp, .int .i64 st, .slice so ss.length sc, .slice lo ls.length lc, .slice to_ ts.length tc] #[.string ⟨#[]⟩, .int .i64 0, .int .i64 0, .slice none 0 0, .slice none 0 0, .slice none 0 0] wr) ∧ Hid (((w.alloc (.cells #[.string nm, .int .i64 sp, .int .i64 st, .slice so ss.length sc, .slice lo ls.length lc, .slice to_ ts.length tc] 26)).alloc (.cells #[.string ⟨#[]⟩, .int .i64 0, .int .i64 0, .slice none 0 0, .slice none 0 0, .slice none 0 0] 26)).grownBy wr none) ∧ Hid (World.ownsRow wr (w.heap.size + 2) 28 7 v (pickS ss l k).length (smpRw (pickS ss l k))))
          (fun _ iv _ => l.length - (intOf iv).toNat)
        case atStart => exact ⟨0, _, rfl, rfl, Nat.zero_le _, fun j hj => absurd hj (by omega), hM, hG, World.ownsRow_nil _ _ _ _⟩
        case round =>
          obtain ⟨m, v, rfl, rfl, hm, hB, hM, hG, hO⟩ := hrel
          by_cases hlm : m < l.length
          · obtain ⟨b2, o2, rfl, hcl⟩ := (HI.out.grown hM.out.g).at (by omega)
            have c0 := hcl m hlm
            have HPS := Lib.hid (pick_succ ss l m)
            have HGE : Hid ((0 < l.length → 0 ≤ nthI l 0) → (m : Int) ≤ nthI l m) := rises_at HRI.out m hlm
            have HZR : Hid (0 ≤ nthI l m → (0 < l.length → 0 ≤ nthI l 0)) := fun h _ => by
              rcases Nat.eq_zero_or_pos m with q | q
              · rw [q] at h; exact h
              · exact (hB.out 0 q).1
            have HBB : Hid (∀ p, nthI l m = p → 0 ≤ p → p < (ss.length : Int) → ∀ j, j < m + 1 → 0 ≤ nthI l j ∧ nthI l j < (ss.length : Int)) := fun p hp h0 h1 j hj => by
              rcases Nat.lt_or_ge j m with q | q
              · exact hB.out j q
              · obtain rfl : j = m := by omega
                rw [hp]; exact ⟨h0, h1⟩
            have HNO : Hid (∀ p, nthI l m = p → (p < 0 ∨ (ss.length : Int) - 1 < p) → ¬ AllIn ss.length l) := fun p hp h hall => by
              have := hall m hlm; rw [hp] at this; omega
            obtain ⟨p, hp⟩ : ∃ p, nthI l m = p := ⟨_, rfl⟩
            rw [hp] at c0
            have HPP := Lib.hid hp
            have u3 := block_cell hM.out.a 3 _ rfl
            have rl : IntKind.i64.wrap ((ss.length : Int) - 1) = (ss.length : Int) - 1 := IntWalk.i64_in _ (by omega)
            clear hcl hp hB
            have HLM := Lib.hid hlm
            go_wp2_with fail
            by_cases hin : 0 ≤ p ∧ p ≤ (ss.length : Int) - 1
            · obtain ⟨n, rfl⟩ : ∃ n : Nat, p = (n : Int) := ⟨p.toNat, by omega⟩
              have hn : n < ss.length := by omega
              have hn2 : (n : Int) < (ss.length : Int) := by omega
              have hmn : Hid (m ≤ 20000) := by
                show _ ≤ _
                have q1 := HGE.out (HZR.out (by rw [HPP.out]; omega)); rw [HPP.out] at q1; omega
              have HB2 := Lib.hid (HBB.out n HPP.out (by omega) hn2)
              refine (twithin_yes _ _ _ hin.1 hin.2 _).mono ?_; rintro e w2 ⟨rfl, rfl⟩
              obtain ⟨b, off, rfl⟩ : ∃ b off, so = some ⟨b, off, none⟩ := by
                have hne : ss ≠ [] := fun h => by rw [h] at hn; simp at hn
                cases so with
                | none => exact absurd (HA.out.hs.nil rfl) hne
                | some p =>
                  obtain ⟨b, off, spot⟩ := p
                  have hsp := HA.out.hs.spot _ rfl hne
                  simp only at hsp
                  subst hsp
                  exact ⟨b, off, rfl⟩
              obtain ⟨q0, q1, q2, q3, q4, q5, q6⟩ := (HA.out.hs.grown hM.out.g).cells _ rfl n hn
              rw [← smpD_at hn] at q0 q1 q2 q3 q4 q5 q6
              simp only at q0 q1 q2 q3 q4 q5 q6
              have HPS2 : Hid (pickS ss l (m + 1) = pickS ss l m ++ [smpD ss n]) := by show _ = _; rw [HPS.out, HPP.out]; rfl
              have HPL : Hid ((pickS ss l m).length = m) := pick_len ss l m
              generalize smpD ss n = x at *
              clear HPS HGE HZR HBB HNO HPP hin
              go_wp2_with (at_builtin; go_loud (refine wpList_append_own _ rfl _ _ 22 rfl (w.heap.size + 2) 28 i0 (.agg #[.int .i64 0, .int .i64 0, .int .i64 0, .int .i64 0, .int .i64 0, .int .i64 0, .int .i64 0]) 7 56 Try.underlying22 HI0.out HZ0.out HZ1.out HZ2.out rfl (by decide) _ _ _ rfl (hO.out.alloc _) ⟨wr.heap.size, 0, none⟩ 1 1 [.int .i64 x.t, .int .i64 x.x, .int .i64 x.y, .int .i64 x.z, .int .i64 x.p, .int .i64 x.q, .int .i64 x.s] rfl rfl (World.news_of_block (cs := #[.int .i64 x.t, .int .i64 x.x, .int .i64 x.y, .int .i64 x.z, .int .i64 x.p, .int .i64 x.q, .int .i64 x.s]) (t := 28) (fr := (0, 0)) (heap_alloc_new wr _)) (by simp [Value.oneCell']) (by have := HPL.out; have := hmn.out; unfold maxLen; omega) (by have := HPL.out; have := hmn.out; omega) (Nat.le_trans hM.out.lt (World.grownBy_alloc _ _ none).size) ?_); go_loud (intro v' w10 ho10 hg10 hnil; have M6 := Lib.hid (clb_row hM.out hg10 (fun r hr => (hO.out.lt r hr).1)); have G6 := Lib.hid (grown_rowR (grown_trans hG.out (World.grownBy_alloc _ _ _)) hg10 (fun r hr => by have := (hO.out.lt r hr).1; have := L0.out; simp; omega)); have O6 := Lib.hid ho10; clear ho10 hg10 hnil hM hG hO))
              go_roundw
              case rel => exact ⟨m + 1, _, rfl, by go_num, HLM.out, HB2, M6, G6, by have q := O6; rw [HPS2.out, List.length_append, smpRw_snoc]; exact q⟩
              case measure => have := HLM.out; simp [intOf]; omega
            · have C2 : Hid (p < 0 ∨ (ss.length : Int) - 1 < p) := by show _ ∨ _; omega
              have hna := HNO.out p HPP.out C2.out
              have hq2 := HV.out
              rw [if_pos HRI.out, if_neg hna] at hq2
              simp only [Prod.mk.injEq] at hq2
              obtain ⟨rfl, rfl⟩ := hq2
              clear HV hna HPS HGE HZR HBB HNO HPP
              refine (twithin_no _ _ _ C2.out _).mono ?_; rintro e w2 ⟨rfl, rfl⟩
              have z0 := block_cell hM.out.z 0 _ rfl
              have y0 := block_free (k := 0) hM.out.z
              have z1 := block_cell hM.out.z 1 _ rfl
              have y1 := block_free (k := 1) hM.out.z
              have z2 := block_cell hM.out.z 2 _ rfl
              have y2 := block_free (k := 2) hM.out.z
              have z3 := block_cell hM.out.z 3 _ rfl
              have y3 := block_free (k := 3) hM.out.z
              have z4 := block_cell hM.out.z 4 _ rfl
              have y4 := block_free (k := 4) hM.out.z
              have z5 := block_cell hM.out.z 5 _ rfl
              have y5 := block_free (k := 5) hM.out.z
              go_wp2_with fail
              refine bodyPost_ret (v := .tuple #[.agg #[.string ⟨#[]⟩, .int .i64 0, .int .i64 0, .slice none 0 0, .slice none 0 0, .slice none 0 0], .int .i64 4]) (by simp [results, Try.results30, go_sem, z0, z1, z2, z3, z4, z5]) rfl ⟨⟨_, rfl, act0_new _ _⟩, ((((((hM.out.setZ 0 _).setZ 1 _).setZ 2 _).setZ 3 _).setZ 4 _).setZ 5 _).g⟩
          · obtain rfl : m = l.length := by omega
            have HAL : Hid (AllIn ss.length l) := fun i hi2 => hB.out i hi2
            have HPL : Hid ((pickS ss l l.length).length ≤ 20002) := by show _ ≤ _; rw [pick_len]; have := all_le HRI.out HAL.out; omega
            have HBD : Hid (∀ x ∈ pickS ss l l.length, 0 ≤ x.t ∧ x.t ≤ 1000000) := pick_bd HS.out HAL.out
            have HV2 : Hid (okV (partV ⟨nm, sp, st, so, sc, ss, lo, lc, ls, to_, tc, ts⟩ (firstT (pickS ss l l.length)) (pickS ss l l.length)) = (c, E)) := by
              have q := HV.out; rw [if_pos HRI.out, if_pos HAL.out] at q; exact q
            clear HV hB
            obtain ⟨L, hL⟩ : ∃ L, pickS ss l l.length = L := ⟨_, rfl⟩
            rw [hL] at HPL HBD HV2 hO
            clear hL
            obtain ⟨D, hD⟩ : ∃ D, firstT L = D := ⟨_, rfl⟩
            have HD := Lib.hid hD
            rw [hD] at HV2
            have u0 := block_cell hM.out.a 0 _ rfl
            have u1 := block_cell hM.out.a 1 _ rfl
            have u2 := block_cell hM.out.a 2 _ rfl
            have u3 := block_cell hM.out.a 3 _ rfl
            have u4 := block_cell hM.out.a 4 _ rfl
            have u5 := block_cell hM.out.a 5 _ rfl
            clear hD
            go_wp2_with fail
            refine (part_is ⟨nm, sp, st, so, sc, ss, lo, lc, ls, to_, tc, ts⟩ HOK.out ((w.alloc (.cells #[.string nm, .int .i64 sp, .int .i64 st, .slice so ss.length sc, .slice lo ls.length lc, .slice to_ ts.length tc] 26)).alloc (.cells #[.string ⟨#[]⟩, .int .i64 0, .int .i64 0, .slice none 0 0, .slice none 0 0, .slice none 0 0] 26)) _ (HA.out.grown M0.out.g) hG.out (w.heap.size + 2) (by simp) hM.out.lt v L HPL.out HBD.out hO.out).mono ?_; rintro e w11 ⟨⟨vp, rfl, hp⟩, hg11⟩
            have M9 : Hid (ClB w #[.string nm, .int .i64 sp, .int .i64 st, .slice so ss.length sc, .slice lo ls.length lc, .slice to_ ts.length tc] #[.string ⟨#[]⟩, .int .i64 0, .int .i64 0, .slice none 0 0, .slice none 0 0, .slice none 0 0] w11) := M0.out.grown hg11
            rw [HD.out] at hp
            obtain ⟨s1, k1, l1, j1, t1, i1, rfl, hpa, hpf⟩ := hp
            have HPA := Lib.hid hpa; have HPF := Lib.hid hpf
            clear hg11 hpa hpf hM hG hO u0 u1 u2 u3 u4 u5
            obtain ⟨ec, hec⟩ : ∃ e, chkE (partV ⟨nm, sp, st, so, sc, ss, lo, lc, ls, to_, tc, ts⟩ D L) = e := ⟨_, rfl⟩
            have HEC : Hid (chkE ⟨nm, sp, st + D, s1, k1, L.map (mvS (-D)), l1, j1, lapsM D (spanL (L.map (mvS (-D)))) ls, t1, i1, ts⟩ = ec) := hec
            have HCV : Hid ((if ec = 0 then partV ⟨nm, sp, st, so, sc, ss, lo, lc, ls, to_, tc, ts⟩ D L else act0) = c ∧ ec = E) := by
              have q := HV2.out
              unfold okV at q
              rw [hec] at q
              simp only [Prod.mk.injEq] at q
              exact q
            clear hec
            go_wp2_with fail
            refine (checked_any ⟨nm, sp, st + D, s1, k1, L.map (mvS (-D)), l1, j1, lapsM D (spanL (L.map (mvS (-D)))) ls, t1, i1, ts⟩ _ HPA.out HPF.out HEC).mono ?_; rintro e w12 ⟨⟨vc, rfl, hq⟩, hg12⟩
            have M10 := Lib.hid (M9.out.grown hg12)
            clear hg12 M9
            have hq2 : ActNew (w.heap.size + 2) w12 vc (if ec = 0 then partV ⟨nm, sp, st, so, sc, ss, lo, lc, ls, to_, tc, ts⟩ D L else act0) := hq.same (by intro e0; rfl)
            rw [HCV.out.1] at hq2
            have hec2 := HCV.out.2
            obtain ⟨s2, k2, l2, j2, t2, i2, rfl, hqa, hqf⟩ := hq2
            have HQA := Lib.hid hqa; have HQF := Lib.hid hqf
            clear hqa hqf hq
            subst hec2
            have z0 := block_cell M10.out.z 0 _ rfl
            have y0 := block_free (k := 0) M10.out.z
            have z1 := block_cell M10.out.z 1 _ rfl
            have y1 := block_free (k := 1) M10.out.z
            have z2 := block_cell M10.out.z 2 _ rfl
            have y2 := block_free (k := 2) M10.out.z
            have z3 := block_cell M10.out.z 3 _ rfl
            have y3 := block_free (k := 3) M10.out.z
            have z4 := block_cell M10.out.z 4 _ rfl
            have y4 := block_free (k := 4) M10.out.z
            have z5 := block_cell M10.out.z 5 _ rfl
            have y5 := block_free (k := 5) M10.out.z
            go_wp2_with fail
            refine bodyPost_ret (v := .tuple #[.agg #[.string c.name, .int .i64 c.sport, .int .i64 c.start, .slice s2 c.ss.length k2, .slice l2 c.ls.length j2, .slice t2 c.ts.length i2], .int .i64 ec]) (by simp [results, Try.results30, go_sem, z0, z1, z2, z3, z4, z5]) rfl ⟨⟨_, rfl, s2, k2, l2, j2, t2, i2, rfl, ?_, HQF.out.mono (by omega)⟩, ((((((M10.out.setZ 0 _).setZ 1 _).setZ 2 _).setZ 3 _).setZ 4 _).setZ 5 _).g⟩
            refine HQA.out.far HQF.out (fun p hp => ?_)
            iterate 6 rw [World.cell?_setCell_other _ _ _ _ (fun e => by subst e; simp at hp)]
  · rw [if_neg d1] at hv
    simp only [Prod.mk.injEq] at hv
    obtain ⟨rfl, rfl⟩ := hv
    have hne : (ce != 0) = true := by simpa using d1
    obtain ⟨nm, sp, st, so, sc, ss, lo, lc, ls, to_, tc, ts⟩ := a
    simp only [Act.val] at *
    clear hE hce ha d1
    have M0 := Lib.hid (ClB.new w #[.string nm, .int .i64 sp, .int .i64 st, .slice so ss.length sc, .slice lo ls.length lc, .slice to_ ts.length tc] #[.string ⟨#[]⟩, .int .i64 0, .int .i64 0, .slice none 0 0, .slice none 0 0, .slice none 0 0])
    go_enter Try.func30, Try.ntmps30
    go_wp2_with fail
    refine (check_any ⟨nm, sp, st, so, sc, ss, lo, lc, ls, to_, tc, ts⟩ _ (HA.out.grown M0.out.g) HCE).mono ?_; rintro e w1 ⟨rfl, hg1⟩
    have M1 := Lib.hid (M0.out.grown hg1)
    clear hg1
    have z0 := block_cell M1.out.z 0 _ rfl
    have y0 := block_free (k := 0) M1.out.z
    have z1 := block_cell M1.out.z 1 _ rfl
    have y1 := block_free (k := 1) M1.out.z
    have z2 := block_cell M1.out.z 2 _ rfl
    have y2 := block_free (k := 2) M1.out.z
    have z3 := block_cell M1.out.z 3 _ rfl
    have y3 := block_free (k := 3) M1.out.z
    have z4 := block_cell M1.out.z 4 _ rfl
    have y4 := block_free (k := 4) M1.out.z
    have z5 := block_cell M1.out.z 5 _ rfl
    have y5 := block_free (k := 5) M1.out.z
    go_wp2_with fail
    refine bodyPost_ret (v := .tuple #[.agg #[.string ⟨#[]⟩, .int .i64 0, .int .i64 0, .slice none 0 0, .slice none 0 0, .slice none 0 0], .int .i64 ce]) (by simp [results, Try.results30, go_sem, z0, z1, z2, z3, z4, z5]) rfl ⟨⟨_, rfl, act0_new _ _⟩, ((((((M1.out.setZ 0 _).setZ 1 _).setZ 2 _).setZ 3 _).setZ 4 _).setZ 5 _).g⟩

theorem Only_any (a : Act) (li : Option Addr) (lic : Nat) (l : List Int) (hll : (l.length : Int) ≤ 9223372036854775807) (w : World) (ha : ActAt w a) (hi : IntsAt w li l) {c : Act} {E : Int} (hE : Hid (onlyO a l = (c, E))) :
    Calls Try.prog 30 #[a.val, .slice li l.length lic] w fun e w' => (∃ v, e = .returned (.tuple #[v, .int .i64 E]) ∧ ActIs w' v c) ∧ w.grownBy w' none :=
  (Only_new a li lic l hll w ha hi hE).mono fun _ _ ⟨⟨v, he, h⟩, g⟩ => ⟨⟨v, he, h.is⟩, g⟩
end Go.Proofs.Ytgkhhfojioepgaa
