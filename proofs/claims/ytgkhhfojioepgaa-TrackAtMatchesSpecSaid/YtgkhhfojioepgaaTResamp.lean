/- The contract of Resample, for any activity. -/
import Derived.Test.YtgkhhfojioepgaaTResB
import Derived.Deep.AppendLies
import Derived.Deep.RegionHeld3
import Derived.Deep.CutBlock
import Derived.Deep.DeepCutAuto
namespace Go.Proofs.Ytgkhhfojioepgaa
open Go.RowKit
set_option linter.unusedSimpArgs false
set_option linter.unusedVariables false

attribute [local go_sem] Oper.semAt_some

set_option maxRecDepth 100000 in
set_option maxHeartbeats 6400000 in
theorem Resample_any (a : Act) (step : Int) (w : World) (ha : ActAt w a) {c : Act} {E : Int} (hE : Hid (resO a step = (c, E))) :
    Calls Try.prog 17 #[a.val, .int .i64 step] w fun e w' => (∃ v, e = .returned (.tuple #[v, .int .i64 E]) ∧ ActIs w' v c) ∧ w.grownBy w' none := by
  obtain ⟨ce, hce⟩ : ∃ e, chkE a = e := ⟨_, rfl⟩
  have hv := hE.out
  unfold resO at hv
  rw [hce] at hv
  have HCE := Lib.hid hce; have HA := Lib.hid ha
  by_cases d1 : ce = 0
  · rw [if_pos d1] at hv
    subst d1
    have hok := chk_ok hce
    have hl : (a.ss.length : Int) ≤ 20000 := hok.sl
    have hl2 : (a.ls.length : Int) ≤ 200 := hok.ll
    have hl3 : (a.ts.length : Int) ≤ 20 := hok.tl
    have HS := Lib.hid (sok_of hok)
    obtain ⟨sv, hsv⟩ : ∃ e, spanL a.ss = e := ⟨_, rfl⟩
    have HSV := Lib.hid hsv
    have hsb := span_bd2 HS.out
    rw [hsv] at hsb hv
    by_cases d2 : 1 ≤ step ∧ step ≤ 1000000
    · rw [if_pos d2] at hv
      have hs0 := d2.1; have hs1 := d2.2
      have hcv := cntR_val hsb.1 hs0
      have hcl := cntR_lt hsb.1 hs0
      have hq0 : 0 ≤ (sv + step - 1) / step := Int.ediv_nonneg (by omega) (by omega)
      have hqb : (sv + step - 1) / step ≤ sv + step - 1 := Int.ediv_le_self _ (by omega)
      have hqt : (sv + step - 1).tdiv step = (sv + step - 1) / step := Int.tdiv_eq_ediv_of_nonneg (by omega)
      obtain ⟨N, hN⟩ : ∃ N, cntR sv step = N := ⟨_, rfl⟩
      rw [hN] at hcv hcl hv
      obtain ⟨q, hq⟩ : ∃ q, (sv + step - 1) / step = q := ⟨_, rfl⟩
      rw [hq] at hcv hq0 hqb hqt
      have r1 : IntKind.i64.wrap (sv + step) = sv + step := IntWalk.i64_in _ (by omega)
      have r2 : IntKind.i64.wrap (sv + step - 1) = sv + step - 1 := IntWalk.i64_in _ (by omega)
      have r3 : IntKind.i64.wrap q = q := IntWalk.i64_in _ (by omega)
      have r4 : IntKind.i64.wrap (q + 1) = q + 1 := IntWalk.i64_in _ (by omega)
      have wz : (step == 0) = false := by simp; omega
      have wz2 : ¬ step = 0 := by omega
      have HCL := Lib.hid hcl; have HN := Lib.hid hN; have HCV := Lib.hid hcv
      clear hcl hN hcv
      by_cases d3 : (N : Int) + 1 ≤ 20000
      · rw [if_pos d3] at hv
        have hgt : decide ((20000 : Int) < q + 1) = false := by have := HCV.out; simp; omega
        have hgt2 : ¬ ((20000 : Int) < q + 1) := by have := HCV.out; omega
        by_cases d4 : a.ss.length = 0
        · rw [if_pos d4] at hv
          simp only [Prod.mk.injEq] at hv
          obtain ⟨rfl, rfl⟩ := hv
          obtain ⟨nm, sp, st, so, sc, ss, lo, lc, ls, to_, tc, ts⟩ := a
          simp only [Act.val] at *
          have C4 := Lib.hid d4
          clear hE hce hok ha d4 hsv
          have M0 := Lib.hid (ClB.new w #[.string nm, .int .i64 sp, .int .i64 st, .slice so ss.length sc, .slice lo ls.length lc, .slice to_ ts.length tc] #[.string ⟨#[]⟩, .int .i64 0, .int .i64 0, .slice none 0 0, .slice none 0 0, .slice none 0 0])
          go_enter Try.func17, Try.ntmps17
          go_wp2_with fail
          refine (check_any ⟨nm, sp, st, so, sc, ss, lo, lc, ls, to_, tc, ts⟩ _ (HA.out.grown M0.out.g) HCE).mono ?_; rintro e w1 ⟨rfl, hg1⟩
          have M1 := Lib.hid (M0.out.grown hg1)
          clear hg1 M0
          have u0 := block_cell M1.out.a 0 _ rfl
          have u1 := block_cell M1.out.a 1 _ rfl
          have u2 := block_cell M1.out.a 2 _ rfl
          have u3 := block_cell M1.out.a 3 _ rfl
          have u4 := block_cell M1.out.a 4 _ rfl
          have u5 := block_cell M1.out.a 5 _ rfl
          go_wp2_with fail
          refine (twithin_yes _ _ _ hs0 hs1 _).mono ?_; rintro e w2 ⟨rfl, rfl⟩
          go_wp2_with fail
          refine (span_any ⟨nm, sp, st, so, sc, ss, lo, lc, ls, to_, tc, ts⟩ (by show (ss.length : Int) ≤ _; omega) _ (HA.out.hs.grown M1.out.g) HSV).mono ?_; rintro e w3 ⟨rfl, hg3⟩
          have M2 := Lib.hid (M1.out.grown hg3)
          clear hg3 u0 u1 u2 u3 u4 u5
          have u0 := block_cell M2.out.a 0 _ rfl
          have u1 := block_cell M2.out.a 1 _ rfl
          have u2 := block_cell M2.out.a 2 _ rfl
          have u3 := block_cell M2.out.a 3 _ rfl
          have u4 := block_cell M2.out.a 4 _ rfl
          have u5 := block_cell M2.out.a 5 _ rfl
          go_wp2_with fail
          refine (clone_any ⟨nm, sp, st, so, sc, ss, lo, lc, ls, to_, tc, ts⟩ (by show ss.length ≤ _; omega) (by show ls.length ≤ _; omega) (by show ts.length ≤ _; omega) _ (HA.out.grown M2.out.g)).mono ?_; rintro e w4 ⟨⟨vv, rfl, hvv⟩, hg4⟩
          obtain ⟨a1, c1, a2, c2, a3, c3, rfl, hat, hfar⟩ := hvv
          have HAT := Lib.hid hat
          have HFAR := Lib.hid (hfar.mono (M := w.heap.size + 2) M2.out.lt)
          have MC := Lib.hid (M2.out.grown hg4)
          clear hg4 hat hfar u0 u1 u2 u3 u4 u5
          go_upto_region 10 with (fail)
          obtain ⟨B, hB⟩ : ∃ B, w4.heap.size = B := ⟨_, rfl⟩
          obtain ⟨W5, hW5⟩ : ∃ W, w4.alloc (.cells #[.string nm, .int .i64 sp, .int .i64 st, .slice a1 ss.length c1, .slice a2 ls.length c2, .slice a3 ts.length c3] 26) = W := ⟨_, rfl⟩
          have M3 : Hid (RsB w #[.string nm, .int .i64 sp, .int .i64 st, .slice so ss.length sc, .slice lo ls.length lc, .slice to_ ts.length tc] #[.string ⟨#[]⟩, .int .i64 0, .int .i64 0, .slice none 0 0, .slice none 0 0, .slice none 0 0] B #[.string nm, .int .i64 sp, .int .i64 st, .slice a1 ss.length c1, .slice a2 ls.length c2, .slice a3 ts.length c3] W5) := by
            rw [← hW5, ← hB]; exact ⟨MC.out.grown (World.grownBy_alloc _ _ _), heap_alloc_new _ _, MC.out.lt⟩
          have G5 : Hid (w4.grownBy W5 none) := by rw [← hW5]; exact World.grownBy_alloc _ _ _
          have HB4 : Hid (w4.heap.size ≤ B) := by show _ ≤ _; omega
          have HB5 : Hid (B + 1 ≤ W5.heap.size) := by show _ ≤ _; rw [← hW5]; simp; omega
          rw [hW5, hB]
          clear hW5 hB MC
          have hz : ((ss.length : Int) == 0) = true := beq_iff_eq.2 (by have := C4.out; omega)
          have u3 := block_cell M3.out.c.a 3 _ rfl
          have b0 := block_cell M3.out.b 0 _ rfl
          have b1 := block_cell M3.out.b 1 _ rfl
          have b2 := block_cell M3.out.b 2 _ rfl
          have b3 := block_cell M3.out.b 3 _ rfl
          have b4 := block_cell M3.out.b 4 _ rfl
          have b5 := block_cell M3.out.b 5 _ rfl
          have z0 := block_cell M3.out.c.z 0 _ rfl
          have y0 := block_free (k := 0) M3.out.c.z
          have z1 := block_cell M3.out.c.z 1 _ rfl
          have y1 := block_free (k := 1) M3.out.c.z
          have z2 := block_cell M3.out.c.z 2 _ rfl
          have y2 := block_free (k := 2) M3.out.c.z
          have z3 := block_cell M3.out.c.z 3 _ rfl
          have y3 := block_free (k := 3) M3.out.c.z
          have z4 := block_cell M3.out.c.z 4 _ rfl
          have y4 := block_free (k := 4) M3.out.c.z
          have z5 := block_cell M3.out.c.z 5 _ rfl
          have y5 := block_free (k := 5) M3.out.c.z
          go_wp2_with fail
          refine bodyPost_ret (v := .tuple #[.agg #[.string nm, .int .i64 sp, .int .i64 st, .slice a1 ss.length c1, .slice a2 ls.length c2, .slice a3 ts.length c3], .int .i64 0]) (by simp [results, Try.results17, go_sem, z0, z1, z2, z3, z4, z5]) rfl ⟨⟨_, rfl, a1, c1, a2, c2, a3, c3, rfl, ?_⟩, ((((((M3.out.setZ 0 _).setZ 1 _).setZ 2 _).setZ 3 _).setZ 4 _).setZ 5 _).c.g⟩
          refine (HAT.out.grown G5.out).far HFAR.out (fun p hp => ?_)
          iterate 6 rw [World.cell?_setCell_other _ _ _ _ (fun e => by subst e; simp at hp)]
        · rw [if_neg d4] at hv
          simp only [Prod.mk.injEq] at hv
          obtain ⟨rfl, rfl⟩ := hv
          obtain ⟨nm, sp, st, so, sc, ss, lo, lc, ls, to_, tc, ts⟩ := a
          simp only [Act.val] at *
          have C4 := Lib.hid d4
          have hz : ((ss.length : Int) == 0) = false := beq_eq_false_iff_ne.2 (by omega)
          obtain ⟨b, off, rfl⟩ : ∃ b off, so = some ⟨b, off, none⟩ := by
            have hne : ss ≠ [] := fun h => d4 (by rw [h]; rfl)
            cases so with
            | none => exact absurd (ha.hs.nil rfl) hne
            | some p =>
              obtain ⟨b, off, spot⟩ := p
              have hsp := ha.hs.spot _ rfl hne
              simp only at hsp
              subst hsp
              exact ⟨b, off, rfl⟩
          clear hE hce hok ha d4 hsv
          obtain ⟨i0, hi, hz0, hz1, hz2⟩ := info_parts cinfo_smps
          have HI0 := Lib.hid hi; have HZ0 := Lib.hid hz0; have HZ1 := Lib.hid hz1; have HZ2 := Lib.hid hz2
          clear hi hz0 hz1 hz2
          have M0 := Lib.hid (ClB.new w #[.string nm, .int .i64 sp, .int .i64 st, .slice (some ⟨b, off, none⟩) ss.length sc, .slice lo ls.length lc, .slice to_ ts.length tc] #[.string ⟨#[]⟩, .int .i64 0, .int .i64 0, .slice none 0 0, .slice none 0 0, .slice none 0 0])
          go_enter Try.func17, Try.ntmps17
          go_wp2_with fail
          refine (check_any ⟨nm, sp, st, some ⟨b, off, none⟩, sc, ss, lo, lc, ls, to_, tc, ts⟩ _ (HA.out.grown M0.out.g) HCE).mono ?_; rintro e w1 ⟨rfl, hg1⟩
          have M1 := Lib.hid (M0.out.grown hg1)
          clear hg1 M0
          have u0 := block_cell M1.out.a 0 _ rfl
          have u1 := block_cell M1.out.a 1 _ rfl
          have u2 := block_cell M1.out.a 2 _ rfl
          have u3 := block_cell M1.out.a 3 _ rfl
          have u4 := block_cell M1.out.a 4 _ rfl
          have u5 := block_cell M1.out.a 5 _ rfl
          go_wp2_with fail
          refine (twithin_yes _ _ _ hs0 hs1 _).mono ?_; rintro e w2 ⟨rfl, rfl⟩
          go_wp2_with fail
          refine (span_any ⟨nm, sp, st, some ⟨b, off, none⟩, sc, ss, lo, lc, ls, to_, tc, ts⟩ (by show (ss.length : Int) ≤ _; omega) _ (HA.out.hs.grown M1.out.g) HSV).mono ?_; rintro e w3 ⟨rfl, hg3⟩
          have M2 := Lib.hid (M1.out.grown hg3)
          clear hg3 u0 u1 u2 u3 u4 u5
          have u0 := block_cell M2.out.a 0 _ rfl
          have u1 := block_cell M2.out.a 1 _ rfl
          have u2 := block_cell M2.out.a 2 _ rfl
          have u3 := block_cell M2.out.a 3 _ rfl
          have u4 := block_cell M2.out.a 4 _ rfl
          have u5 := block_cell M2.out.a 5 _ rfl
          go_wp2_with fail
          refine (clone_any ⟨nm, sp, st, some ⟨b, off, none⟩, sc, ss, lo, lc, ls, to_, tc, ts⟩ (by show ss.length ≤ _; omega) (by show ls.length ≤ _; omega) (by show ts.length ≤ _; omega) _ (HA.out.grown M2.out.g)).mono ?_; rintro e w4 ⟨⟨vv, rfl, hvv⟩, hg4⟩
          obtain ⟨a1, c1, a2, c2, a3, c3, rfl, hat, hfar⟩ := hvv
          have HAT := Lib.hid hat
          have HFAR := Lib.hid (hfar.mono (M := w.heap.size + 2) M2.out.lt)
          have MC := Lib.hid (M2.out.grown hg4)
          clear hg4 hat hfar u0 u1 u2 u3 u4 u5
          go_upto_region 10 with (fail)
          obtain ⟨B, hB⟩ : ∃ B, w4.heap.size = B := ⟨_, rfl⟩
          obtain ⟨W5, hW5⟩ : ∃ W, w4.alloc (.cells #[.string nm, .int .i64 sp, .int .i64 st, .slice a1 ss.length c1, .slice a2 ls.length c2, .slice a3 ts.length c3] 26) = W := ⟨_, rfl⟩
          have M5 : Hid (RsB w #[.string nm, .int .i64 sp, .int .i64 st, .slice (some ⟨b, off, none⟩) ss.length sc, .slice lo ls.length lc, .slice to_ ts.length tc] #[.string ⟨#[]⟩, .int .i64 0, .int .i64 0, .slice none 0 0, .slice none 0 0, .slice none 0 0] B #[.string nm, .int .i64 sp, .int .i64 st, .slice a1 ss.length c1, .slice a2 ls.length c2, .slice a3 ts.length c3] W5) := by
            rw [← hW5, ← hB]; exact ⟨MC.out.grown (World.grownBy_alloc _ _ _), heap_alloc_new _ _, MC.out.lt⟩
          have G5 : Hid (w4.grownBy W5 none) := by rw [← hW5]; exact World.grownBy_alloc _ _ _
          have HB4 : Hid (w4.heap.size ≤ B) := by show _ ≤ _; omega
          have HB5 : Hid (B + 1 ≤ W5.heap.size) := by show _ ≤ _; rw [← hW5]; simp; omega
          rw [hW5, hB]
          clear hW5 hB MC
          have u3 := block_cell M5.out.c.a 3 _ rfl
          have b3 := block_cell M5.out.b 3 _ rfl
          have f3 := block_free (k := 3) M5.out.b
          go_upto_region 13 with (fail)
          obtain ⟨W6, hW6⟩ : ∃ W, World.setCell W5 ⟨B, 3, none⟩ (.slice none 0 0) = W := ⟨_, rfl⟩
          have M6 : Hid (RsB w #[.string nm, .int .i64 sp, .int .i64 st, .slice (some ⟨b, off, none⟩) ss.length sc, .slice lo ls.length lc, .slice to_ ts.length tc] #[.string ⟨#[]⟩, .int .i64 0, .int .i64 0, .slice none 0 0, .slice none 0 0, .slice none 0 0] B #[.string nm, .int .i64 sp, .int .i64 st, (.slice none 0 0), .slice a2 ls.length c2, .slice a3 ts.length c3] W6) := by
            rw [← hW6]; exact M5.out.setB 3 (.slice none 0 0)
          have GG6 : Hid (w4.grownBy W6 none) := by rw [← hW6]; exact grown_far G5.out HB4.out _ _
          rw [hW6]
          clear hW6 M5 b3 f3 u3
          go_wp2_with fail
          go_loopw [9] (fun tv wr => ∃ (k : Nat) (v : Value), tv = .int .i64 ((k : Int) * step) ∧ k ≤ N ∧ Hid (RsB w #[.string nm, .int .i64 sp, .int .i64 st, .slice (some ⟨b, off, none⟩) ss.length sc, .slice lo ls.length lc, .slice to_ ts.length tc] #[.string ⟨#[]⟩, .int .i64 0, .int .i64 0, .slice none 0 0, .slice none 0 0, .slice none 0 0] B #[.string nm, .int .i64 sp, .int .i64 st, v, .slice a2 ls.length c2, .slice a3 ts.length c3] wr) ∧ Hid (wr.ownsRow (B + 1) 28 7 v k (smpRw (resK ss step k))) ∧ Hid (w4.grownBy wr none))
            (fun tv _ => (sv - intOf tv).toNat)
          case atStart => exact ⟨0, _, by simp, Nat.zero_le _, M6.out, World.ownsRow_nil _ _ _ _, GG6.out⟩
          case round =>
            obtain ⟨k, v, rfl, hkN, hM, hO, hG⟩ := hrel
            obtain ⟨X, hT⟩ : ∃ X, (k : Int) * step = X := ⟨_, rfl⟩
            have hT0 : 0 ≤ X := by rw [← hT]; exact Int.mul_nonneg (by omega) (by omega)
            have hT1 : Hid (((k + 1 : Nat) : Int) * step = X + step) := by
              show _ = _; rw [← hT, Int.natCast_add, Int.add_mul]; simp
            have hK := HCL.out k
            have hRS := resK_succ ss step k
            rw [hT] at hK hRS ⊢
            clear hT
            have HMX := hM; have HOX := hO; have HGX := hG
            have HSM := Lib.hid (HA.out.hs.grown hM.out.c.g)
            by_cases hlt : X < sv
            · have hk2 : k < N := hK.1 hlt
              have rX : IntKind.i64.wrap (X + step) = X + step := IntWalk.i64_in _ (by omega)
              have HK2 := Lib.hid hk2
              clear hK hkN
              obtain ⟨x, hx⟩ : ∃ x, sampV ss X = x := ⟨_, rfl⟩
              have KS : Hid (∀ V : World, SmpsAt V (some ⟨b, off, none⟩) ss → Calls Try.prog 57 #[.slice (some ⟨b, off, none⟩) ss.length sc, .int .i64 X] V fun e w' => e = .returned (.agg #[.int .i64 x.t, .int .i64 x.x, .int .i64 x.y, .int .i64 x.z, .int .i64 x.p, .int .i64 x.q, .int .i64 x.s]) ∧ V.grownBy w' none) := fun V hV => sampleAt_is b off sc ss HS X (Lib.hid (idx_is HS.out X)) (idx_lt HS.out C4.out (by rw [HSV.out]; omega)) (by omega) V hV (Lib.hid hx)
              have HRS : Hid (smpRw (resK ss step (k + 1)) = smpRw (resK ss step k) ++ [.int .i64 x.t, .int .i64 x.x, .int .i64 x.y, .int .i64 x.z, .int .i64 x.p, .int .i64 x.q, .int .i64 x.s]) := by
                show _ = _; rw [hRS, hx]; rw [smpRw_snoc]; rfl
              have b3 := block_cell HMX.out.b 3 _ rfl
              have u3 := block_cell HMX.out.c.a 3 _ rfl
              clear hx hRS
              go_wp2_with fail
              have M1r : Hid (RsB w #[.string nm, .int .i64 sp, .int .i64 st, .slice (some ⟨b, off, none⟩) ss.length sc, .slice lo ls.length lc, .slice to_ ts.length tc] #[.string ⟨#[]⟩, .int .i64 0, .int .i64 0, .slice none 0 0, .slice none 0 0, .slice none 0 0] B #[.string nm, .int .i64 sp, .int .i64 st, v, .slice a2 ls.length c2, .slice a3 ts.length c3] wr.drew) := HMX.out.grown (grown_drewN wr none 1)
              have O1r : Hid (wr.drew.ownsRow (B + 1) 28 7 v k (smpRw (resK ss step k))) := HOX.out.kept (grown_drewN wr none 1) (by cases v.ownBlock <;> simp)
              have G1r : Hid (w4.grownBy wr.drew none) := grown_trans HGX.out (grown_drewN wr none 1)
              have S1r : Hid (SmpsAt wr.drew (some ⟨b, off, none⟩) ss) := HSM.out.grown (grown_drewN wr none 1)
              refine region_late (lateK (fun V => World.cell? V ⟨w.heap.size, 3, none⟩ = some (.slice (some ⟨b, off, none⟩) ss.length sc)) [(9, ⟨B, 3, none⟩, v)]) (by kernel_rfl) ⟨fun _ => block_cell M1r.out.b 3 _ rfl, block_cell M1r.out.c.a 3 _ rfl⟩ (fun hCa0 hSa0 => ?_)
              clear b3 u3 HMX HOX HGX HSM
              generalize wr.drew = V1 at *
              refine wpAnyS_take (i := 0) (oi := ?oia1) (v := .pointer (some ⟨B, 3, none⟩)) ?hia1 (by kernel_rfl) (by kernel_rfl) (by kernel_rfl) (lateK_iff (by rfl)) ?hqa1 ?hya1 hCa0 hSa0 ?resta1
              case hia1 => simp only [List.getElem?_toArray, List.getElem?_cons_zero, Option.some.injEq]; rfl
              case hqa1 => exact fun _ _ _ h => h
              case hya1 =>
                refine Or.inl ⟨by kernel_rfl, fun V hV => ?_⟩
                clear hV
                go_simp
              intro hCa1 hSa1
              clear hCa0 hSa0
              try simp only [Go.Act.put, List.setIfInBounds_toArray, List.set_cons_zero, List.set_cons_succ]
              refine wpAnyS_take (i := 1) (oi := ?oia2) (v := v) ?hia2 (by kernel_rfl) (by kernel_rfl) (by kernel_rfl) (lateK_iff (by rfl)) ?hqa2 ?hya2 hCa1 hSa1 ?resta2
              case hia2 => simp only [List.getElem?_toArray, List.getElem?_cons_succ, List.getElem?_cons_zero, Option.some.injEq]; rfl
              case hqa2 => exact fun _ _ _ h => h
              case hya2 =>
                refine Or.inl ⟨by kernel_rfl, fun V hV => ?_⟩
                have q1 := lateK_cell 0 hV rfl rfl (by kernel_rfl); clear hV
                go_simp
              intro hCa2 hSa2
              clear hCa1 hSa1
              try simp only [Go.Act.put, List.setIfInBounds_toArray, List.set_cons_zero, List.set_cons_succ]
              refine wpAnyS_take (i := 2) (oi := ?oia3) (v := .pointer (some ⟨w.heap.size, 3, none⟩)) ?hia3 (by kernel_rfl) (by kernel_rfl) (by kernel_rfl) (lateK_iff (by rfl)) ?hqa3 ?hya3 hCa2 hSa2 ?resta3
              case hia3 => simp only [List.getElem?_toArray, List.getElem?_cons_succ, List.getElem?_cons_zero, Option.some.injEq]; rfl
              case hqa3 => exact fun _ _ _ h => h
              case hya3 =>
                refine Or.inl ⟨by kernel_rfl, fun V hV => ?_⟩
                clear hV
                go_simp
              intro hCa3 hSa3
              clear hCa2 hSa2
              try simp only [Go.Act.put, List.setIfInBounds_toArray, List.set_cons_zero, List.set_cons_succ]
              refine wpAnyS_take (i := 3) (oi := ?oia4) (v := .slice (some ⟨b, off, none⟩) ss.length sc) ?hia4 (by kernel_rfl) (by kernel_rfl) (by kernel_rfl) (lateK_iff (by rfl)) ?hqa4 ?hya4 hCa3 hSa3 ?resta4
              case hia4 => simp only [List.getElem?_toArray, List.getElem?_cons_succ, List.getElem?_cons_zero, Option.some.injEq]; rfl
              case hqa4 => exact fun _ _ _ h => h
              case hya4 =>
                refine Or.inl ⟨by kernel_rfl, fun V hV => ?_⟩
                have q2 := lateK_g hV; clear hV
                go_simp
              intro hCa4 hSa4
              clear hCa3 hSa3
              try simp only [Go.Act.put, List.setIfInBounds_toArray, List.set_cons_zero, List.set_cons_succ]
              refine wpAnyS_take (i := 4) (oi := ?oia5) (v := .int .i64 X) ?hia5 (by kernel_rfl) (by kernel_rfl) (by kernel_rfl) (lateK_iff (by rfl)) ?hqa5 ?hya5 hCa4 hSa4 ?resta5
              case hia5 => simp only [List.getElem?_toArray, List.getElem?_cons_succ, List.getElem?_cons_zero, Option.some.injEq]; rfl
              case hqa5 => exact fun _ _ _ h => h
              case hya5 =>
                refine Or.inl ⟨by kernel_rfl, fun V hV => ?_⟩
                clear hV
                go_simp
              intro hCa5 hSa5
              clear hCa4 hSa4
              try simp only [Go.Act.put, List.setIfInBounds_toArray, List.set_cons_zero, List.set_cons_succ]
              refine wpAnyS_ready (rs := [5]) (by kernel_rfl) (by simp) ?_
              refine AllReadyS.cons rfl hCa5 (fun K hK => ?_) AllReadyS.nil
              go_simp
              refine (KS.out _ S1r.out).mono ?_
              rintro e w7 ⟨rfl, hg7⟩
              have M7 := Lib.hid (M1r.out.grown hg7)
              have O7 := Lib.hid (O1r.out.kept hg7 (by cases v.ownBlock <;> simp))
              have G7 := Lib.hid (grown_trans G1r.out hg7)
              refine hK.out _ _ ⟨fun _ => block_cell M7.out.b 3 _ rfl, block_cell M7.out.c.a 3 _ rfl⟩ (fun hCa6 hSa6 => ?_)
              clear hK hCa5 hSa5 K
              clear hg7 M1r O1r G1r S1r KS
              try simp only [Go.Act.put, List.setIfInBounds_toArray, List.set_cons_zero, List.set_cons_succ]
              refine wpAnyS_ready (rs := [6]) (by kernel_rfl) (by simp) ?_
              refine AllReadyS.cons rfl hCa6 (fun K hK => ?_) AllReadyS.nil
              go_simp
              have M8 : Hid (RsB w #[.string nm, .int .i64 sp, .int .i64 st, .slice (some ⟨b, off, none⟩) ss.length sc, .slice lo ls.length lc, .slice to_ ts.length tc] #[.string ⟨#[]⟩, .int .i64 0, .int .i64 0, .slice none 0 0, .slice none 0 0, .slice none 0 0] B #[.string nm, .int .i64 sp, .int .i64 st, v, .slice a2 ls.length c2, .slice a3 ts.length c3] (w7.alloc (.cells #[.int .i64 x.t, .int .i64 x.x, .int .i64 x.y, .int .i64 x.z, .int .i64 x.p, .int .i64 x.q, .int .i64 x.s] 28))) := M7.out.grown (World.grownBy_alloc _ _ _)
              have O8 : Hid ((w7.alloc (.cells #[.int .i64 x.t, .int .i64 x.x, .int .i64 x.y, .int .i64 x.z, .int .i64 x.p, .int .i64 x.q, .int .i64 x.s] 28)).ownsRow (B + 1) 28 7 v k (smpRw (resK ss step k))) := O7.out.alloc _
              have G8 : Hid (w4.grownBy (w7.alloc (.cells #[.int .i64 x.t, .int .i64 x.x, .int .i64 x.y, .int .i64 x.z, .int .i64 x.p, .int .i64 x.q, .int .i64 x.s] 28)) none) := grown_trans G7.out (World.grownBy_alloc _ _ _)
              have N8 : Hid ((w7.alloc (.cells #[.int .i64 x.t, .int .i64 x.x, .int .i64 x.y, .int .i64 x.z, .int .i64 x.p, .int .i64 x.q, .int .i64 x.s] 28)).heap[w7.heap.size]? = some (.cells #[.int .i64 x.t, .int .i64 x.x, .int .i64 x.y, .int .i64 x.z, .int .i64 x.p, .int .i64 x.q, .int .i64 x.s] 28 (0, 0))) := heap_alloc_new w7 _
              have L8 : Hid (B + 1 ≤ (w7.alloc (.cells #[.int .i64 x.t, .int .i64 x.x, .int .i64 x.y, .int .i64 x.z, .int .i64 x.p, .int .i64 x.q, .int .i64 x.s] 28)).heap.size) := M8.out.bsz
              refine hK.out _ _ ⟨fun _ => block_cell M8.out.b 3 _ rfl, block_cell M8.out.c.a 3 _ rfl⟩ (fun hCa7 hSa7 => ?_)
              clear hK hCa6 hSa6 K
              clear M7 O7 G7
              generalize World.alloc w7 (.cells #[.int .i64 x.t, .int .i64 x.x, .int .i64 x.y, .int .i64 x.z, .int .i64 x.p, .int .i64 x.q, .int .i64 x.s] 28) = w8 at *
              generalize w7.heap.size = g7 at *
              try simp only [Go.Act.put, List.setIfInBounds_toArray, List.set_cons_zero, List.set_cons_succ]
              refine wpAnyS_ready (rs := [7]) (by kernel_rfl) (by simp) ?_
              refine AllReadyS.cons rfl hCa7 (fun K hK => ?_) AllReadyS.nil
              refine step_append_lies w8 (by rfl) _ _ 22 (by rfl) (B + 1) 28 i0 _ 7 56 Try.underlying22 HI0.out HZ0.out HZ1.out HZ2.out rfl (by decide) v k (smpRw (resK ss step k)) (by rfl) O8.out ⟨g7, 0, none⟩ 1 1 [.int .i64 x.t, .int .i64 x.x, .int .i64 x.y, .int .i64 x.z, .int .i64 x.p, .int .i64 x.q, .int .i64 x.s] (by rfl) (by rfl) (World.news_of_block N8.out) (by simp [Value.oneCell']) (by decide) (by unfold maxLen; omega) (by omega) L8.out _ rfl ?_
              intro gg cap w9 ho9 hg9 ha9 hl9
              have M9 := Lib.hid (M8.out.kept hg9 (fun r hr => by have := (O8.out.lt r hr).1; omega))
              have G9 := Lib.hid (grown_rowR G8.out hg9 (fun r hr => by have := (O8.out.lt r hr).1; have := HB4.out; omega))
              have O9 : Hid (w9.ownsRow (B + 1) 28 7 (.slice (some ⟨gg, 0, none⟩) (k + 1) cap) (k + 1) (smpRw (resK ss step (k + 1)))) := by rw [HRS.out]; exact ho9
              refine hK.out _ _ ⟨fun _ => block_cell M9.out.b 3 _ rfl, block_cell M9.out.c.a 3 _ rfl⟩ (fun hCa8 hSa8 => ?_)
              clear hK hCa7 hSa7 K
              clear ho9 hg9 ha9 hl9 M8 O8 G8 N8 L8
              try simp only [Go.Act.put, List.setIfInBounds_toArray]
              refine wpAnyS_take (i := 8) (oi := ?oia9) (v := .pointer (some ⟨B, 3, none⟩)) ?hia9 (by kernel_rfl) (by kernel_rfl) (by kernel_rfl) (lateK_iff (by rfl)) ?hqa9 ?hya9 hCa8 hSa8 ?resta9
              case hia9 => simp only [List.getElem?_toArray, List.getElem?_cons_succ, List.getElem?_cons_zero, Option.some.injEq]; rfl
              case hqa9 => exact fun _ _ _ h => h
              case hya9 =>
                refine Or.inl ⟨by kernel_rfl, fun V hV => ?_⟩
                clear hV
                go_simp
              intro hCa9 hSa9
              clear hCa8 hSa8
              try simp only [Go.Act.put]
              refine wpAnyS_ready (rs := [9]) (by kernel_rfl) (by simp) ?_
              refine AllReadyS.cons rfl hCa9 (fun K hK => ?_) AllReadyS.nil
              have x3 := block_cell M9.out.b 3 _ rfl; have f3 := block_free (k := 3) M9.out.b
              go_simp
              have M10 : Hid (RsB w #[.string nm, .int .i64 sp, .int .i64 st, .slice (some ⟨b, off, none⟩) ss.length sc, .slice lo ls.length lc, .slice to_ ts.length tc] #[.string ⟨#[]⟩, .int .i64 0, .int .i64 0, .slice none 0 0, .slice none 0 0, .slice none 0 0] B #[.string nm, .int .i64 sp, .int .i64 st, (.slice (some ⟨gg, 0, none⟩) (k + 1) cap), .slice a2 ls.length c2, .slice a3 ts.length c3] (w9.setCell ⟨B, 3, none⟩ (.slice (some ⟨gg, 0, none⟩) (k + 1) cap))) := M9.out.setB 3 _
              have O10 : Hid ((w9.setCell ⟨B, 3, none⟩ (.slice (some ⟨gg, 0, none⟩) (k + 1) cap)).ownsRow (B + 1) 28 7 (.slice (some ⟨gg, 0, none⟩) (k + 1) cap) (k + 1) (smpRw (resK ss step (k + 1)))) := own_setR O9.out (by omega) 3 _
              have G10 : Hid (w4.grownBy (w9.setCell ⟨B, 3, none⟩ (.slice (some ⟨gg, 0, none⟩) (k + 1) cap)) none) := grown_far G9.out HB4.out 3 _
              refine hK.out _ _ ⟨lateUp (by rfl), block_cell M10.out.c.a 3 _ rfl⟩ (fun hCa10 hSa10 => ?_)
              clear hK hCa9 hSa9 K
              clear x3 f3 M9 O9 G9
              generalize World.setCell w9 ⟨B, 3, none⟩ (.slice (some ⟨gg, 0, none⟩) (k + 1) cap) = W10 at *
              try simp only [Go.Act.put, List.setIfInBounds_toArray, List.set_cons_zero, List.set_cons_succ]
              refine wpAnyS_done (by kernel_rfl) ?_ _
              clear hCa10 hSa10
              go_wp2_with fail
              go_roundw
              case rel => exact ⟨k + 1, _, by rw [hT1.out], HK2.out, M10.out, O10.out, G10.out⟩
              case measure => simp [intOf]; omega
            · have hkE : k = N := by
                have := mt hK.2 hlt; omega
              subst hkE
              clear hK hRS hkN hT1
              obtain ⟨x, hx⟩ : ∃ x, sampV ss sv = x := ⟨_, rfl⟩
              have KS : Hid (∀ V : World, SmpsAt V (some ⟨b, off, none⟩) ss → Calls Try.prog 57 #[.slice (some ⟨b, off, none⟩) ss.length sc, .int .i64 sv] V fun e w' => e = .returned (.agg #[.int .i64 x.t, .int .i64 x.x, .int .i64 x.y, .int .i64 x.z, .int .i64 x.p, .int .i64 x.q, .int .i64 x.s]) ∧ V.grownBy w' none) := fun V hV => sampleAt_is b off sc ss HS sv (Lib.hid (idx_is HS.out sv)) (idx_lt HS.out C4.out (by rw [HSV.out]; omega)) (by omega) V hV (Lib.hid hx)
              have HRS : Hid (smpRw (resL ss step) = smpRw (resK ss step k) ++ [.int .i64 x.t, .int .i64 x.x, .int .i64 x.y, .int .i64 x.z, .int .i64 x.p, .int .i64 x.q, .int .i64 x.s]) := by
                show _ = _; unfold resL; rw [HSV.out, HN.out, hx]; rw [smpRw_snoc]; rfl
              have b3 := block_cell HMX.out.b 3 _ rfl
              have u3 := block_cell HMX.out.c.a 3 _ rfl
              clear hx
              go_wp2_with fail
              have M1r : Hid (RsB w #[.string nm, .int .i64 sp, .int .i64 st, .slice (some ⟨b, off, none⟩) ss.length sc, .slice lo ls.length lc, .slice to_ ts.length tc] #[.string ⟨#[]⟩, .int .i64 0, .int .i64 0, .slice none 0 0, .slice none 0 0, .slice none 0 0] B #[.string nm, .int .i64 sp, .int .i64 st, v, .slice a2 ls.length c2, .slice a3 ts.length c3] wr.drew) := HMX.out.grown (grown_drewN wr none 1)
              have O1r : Hid (wr.drew.ownsRow (B + 1) 28 7 v k (smpRw (resK ss step k))) := HOX.out.kept (grown_drewN wr none 1) (by cases v.ownBlock <;> simp)
              have G1r : Hid (w4.grownBy wr.drew none) := grown_trans HGX.out (grown_drewN wr none 1)
              have S1r : Hid (SmpsAt wr.drew (some ⟨b, off, none⟩) ss) := HSM.out.grown (grown_drewN wr none 1)
              refine region_late (lateK (fun V => World.cell? V ⟨w.heap.size, 3, none⟩ = some (.slice (some ⟨b, off, none⟩) ss.length sc)) [(9, ⟨B, 3, none⟩, v)]) (by kernel_rfl) ⟨fun _ => block_cell M1r.out.b 3 _ rfl, block_cell M1r.out.c.a 3 _ rfl⟩ (fun hCb0 hSb0 => ?_)
              clear b3 u3 HMX HOX HGX HSM
              generalize wr.drew = V1 at *
              refine wpAnyS_take (i := 0) (oi := ?oib1) (v := .pointer (some ⟨B, 3, none⟩)) ?hib1 (by kernel_rfl) (by kernel_rfl) (by kernel_rfl) (lateK_iff (by rfl)) ?hqb1 ?hyb1 hCb0 hSb0 ?restb1
              case hib1 => simp only [List.getElem?_toArray, List.getElem?_cons_zero, Option.some.injEq]; rfl
              case hqb1 => exact fun _ _ _ h => h
              case hyb1 =>
                refine Or.inl ⟨by kernel_rfl, fun V hV => ?_⟩
                clear hV
                go_simp
              intro hCb1 hSb1
              clear hCb0 hSb0
              try simp only [Go.Act.put, List.setIfInBounds_toArray, List.set_cons_zero, List.set_cons_succ]
              refine wpAnyS_take (i := 1) (oi := ?oib2) (v := v) ?hib2 (by kernel_rfl) (by kernel_rfl) (by kernel_rfl) (lateK_iff (by rfl)) ?hqb2 ?hyb2 hCb1 hSb1 ?restb2
              case hib2 => simp only [List.getElem?_toArray, List.getElem?_cons_succ, List.getElem?_cons_zero, Option.some.injEq]; rfl
              case hqb2 => exact fun _ _ _ h => h
              case hyb2 =>
                refine Or.inl ⟨by kernel_rfl, fun V hV => ?_⟩
                have q1 := lateK_cell 0 hV rfl rfl (by kernel_rfl); clear hV
                go_simp
              intro hCb2 hSb2
              clear hCb1 hSb1
              try simp only [Go.Act.put, List.setIfInBounds_toArray, List.set_cons_zero, List.set_cons_succ]
              refine wpAnyS_take (i := 2) (oi := ?oib3) (v := .pointer (some ⟨w.heap.size, 3, none⟩)) ?hib3 (by kernel_rfl) (by kernel_rfl) (by kernel_rfl) (lateK_iff (by rfl)) ?hqb3 ?hyb3 hCb2 hSb2 ?restb3
              case hib3 => simp only [List.getElem?_toArray, List.getElem?_cons_succ, List.getElem?_cons_zero, Option.some.injEq]; rfl
              case hqb3 => exact fun _ _ _ h => h
              case hyb3 =>
                refine Or.inl ⟨by kernel_rfl, fun V hV => ?_⟩
                clear hV
                go_simp
              intro hCb3 hSb3
              clear hCb2 hSb2
              try simp only [Go.Act.put, List.setIfInBounds_toArray, List.set_cons_zero, List.set_cons_succ]
              refine wpAnyS_take (i := 3) (oi := ?oib4) (v := .slice (some ⟨b, off, none⟩) ss.length sc) ?hib4 (by kernel_rfl) (by kernel_rfl) (by kernel_rfl) (lateK_iff (by rfl)) ?hqb4 ?hyb4 hCb3 hSb3 ?restb4
              case hib4 => simp only [List.getElem?_toArray, List.getElem?_cons_succ, List.getElem?_cons_zero, Option.some.injEq]; rfl
              case hqb4 => exact fun _ _ _ h => h
              case hyb4 =>
                refine Or.inl ⟨by kernel_rfl, fun V hV => ?_⟩
                have q2 := lateK_g hV; clear hV
                go_simp
              intro hCb4 hSb4
              clear hCb3 hSb3
              try simp only [Go.Act.put, List.setIfInBounds_toArray, List.set_cons_zero, List.set_cons_succ]
              refine wpAnyS_take (i := 4) (oi := ?oib5) (v := .int .i64 sv) ?hib5 (by kernel_rfl) (by kernel_rfl) (by kernel_rfl) (lateK_iff (by rfl)) ?hqb5 ?hyb5 hCb4 hSb4 ?restb5
              case hib5 => simp only [List.getElem?_toArray, List.getElem?_cons_succ, List.getElem?_cons_zero, Option.some.injEq]; rfl
              case hqb5 => exact fun _ _ _ h => h
              case hyb5 =>
                refine Or.inl ⟨by kernel_rfl, fun V hV => ?_⟩
                clear hV
                go_simp
              intro hCb5 hSb5
              clear hCb4 hSb4
              try simp only [Go.Act.put, List.setIfInBounds_toArray, List.set_cons_zero, List.set_cons_succ]
              refine wpAnyS_ready (rs := [5]) (by kernel_rfl) (by simp) ?_
              refine AllReadyS.cons rfl hCb5 (fun K hK => ?_) AllReadyS.nil
              go_simp
              refine (KS.out _ S1r.out).mono ?_
              rintro e w7 ⟨rfl, hg7⟩
              have M7 := Lib.hid (M1r.out.grown hg7)
              have O7 := Lib.hid (O1r.out.kept hg7 (by cases v.ownBlock <;> simp))
              have G7 := Lib.hid (grown_trans G1r.out hg7)
              refine hK.out _ _ ⟨fun _ => block_cell M7.out.b 3 _ rfl, block_cell M7.out.c.a 3 _ rfl⟩ (fun hCb6 hSb6 => ?_)
              clear hK hCb5 hSb5 K
              clear hg7 M1r O1r G1r S1r KS
              try simp only [Go.Act.put, List.setIfInBounds_toArray, List.set_cons_zero, List.set_cons_succ]
              refine wpAnyS_ready (rs := [6]) (by kernel_rfl) (by simp) ?_
              refine AllReadyS.cons rfl hCb6 (fun K hK => ?_) AllReadyS.nil
              go_simp
              have M8 : Hid (RsB w #[.string nm, .int .i64 sp, .int .i64 st, .slice (some ⟨b, off, none⟩) ss.length sc, .slice lo ls.length lc, .slice to_ ts.length tc] #[.string ⟨#[]⟩, .int .i64 0, .int .i64 0, .slice none 0 0, .slice none 0 0, .slice none 0 0] B #[.string nm, .int .i64 sp, .int .i64 st, v, .slice a2 ls.length c2, .slice a3 ts.length c3] (w7.alloc (.cells #[.int .i64 x.t, .int .i64 x.x, .int .i64 x.y, .int .i64 x.z, .int .i64 x.p, .int .i64 x.q, .int .i64 x.s] 28))) := M7.out.grown (World.grownBy_alloc _ _ _)
              have O8 : Hid ((w7.alloc (.cells #[.int .i64 x.t, .int .i64 x.x, .int .i64 x.y, .int .i64 x.z, .int .i64 x.p, .int .i64 x.q, .int .i64 x.s] 28)).ownsRow (B + 1) 28 7 v k (smpRw (resK ss step k))) := O7.out.alloc _
              have G8 : Hid (w4.grownBy (w7.alloc (.cells #[.int .i64 x.t, .int .i64 x.x, .int .i64 x.y, .int .i64 x.z, .int .i64 x.p, .int .i64 x.q, .int .i64 x.s] 28)) none) := grown_trans G7.out (World.grownBy_alloc _ _ _)
              have N8 : Hid ((w7.alloc (.cells #[.int .i64 x.t, .int .i64 x.x, .int .i64 x.y, .int .i64 x.z, .int .i64 x.p, .int .i64 x.q, .int .i64 x.s] 28)).heap[w7.heap.size]? = some (.cells #[.int .i64 x.t, .int .i64 x.x, .int .i64 x.y, .int .i64 x.z, .int .i64 x.p, .int .i64 x.q, .int .i64 x.s] 28 (0, 0))) := heap_alloc_new w7 _
              have L8 : Hid (B + 1 ≤ (w7.alloc (.cells #[.int .i64 x.t, .int .i64 x.x, .int .i64 x.y, .int .i64 x.z, .int .i64 x.p, .int .i64 x.q, .int .i64 x.s] 28)).heap.size) := M8.out.bsz
              refine hK.out _ _ ⟨fun _ => block_cell M8.out.b 3 _ rfl, block_cell M8.out.c.a 3 _ rfl⟩ (fun hCb7 hSb7 => ?_)
              clear hK hCb6 hSb6 K
              clear M7 O7 G7
              generalize World.alloc w7 (.cells #[.int .i64 x.t, .int .i64 x.x, .int .i64 x.y, .int .i64 x.z, .int .i64 x.p, .int .i64 x.q, .int .i64 x.s] 28) = w8 at *
              generalize w7.heap.size = g7 at *
              try simp only [Go.Act.put, List.setIfInBounds_toArray, List.set_cons_zero, List.set_cons_succ]
              refine wpAnyS_ready (rs := [7]) (by kernel_rfl) (by simp) ?_
              refine AllReadyS.cons rfl hCb7 (fun K hK => ?_) AllReadyS.nil
              refine step_append_lies w8 (by rfl) _ _ 22 (by rfl) (B + 1) 28 i0 _ 7 56 Try.underlying22 HI0.out HZ0.out HZ1.out HZ2.out rfl (by decide) v k (smpRw (resK ss step k)) (by rfl) O8.out ⟨g7, 0, none⟩ 1 1 [.int .i64 x.t, .int .i64 x.x, .int .i64 x.y, .int .i64 x.z, .int .i64 x.p, .int .i64 x.q, .int .i64 x.s] (by rfl) (by rfl) (World.news_of_block N8.out) (by simp [Value.oneCell']) (by decide) (by unfold maxLen; omega) (by omega) L8.out _ rfl ?_
              intro gg cap w9 ho9 hg9 ha9 hl9
              have M9 := Lib.hid (M8.out.kept hg9 (fun r hr => by have := (O8.out.lt r hr).1; omega))
              have G9 := Lib.hid (grown_rowR G8.out hg9 (fun r hr => by have := (O8.out.lt r hr).1; have := HB4.out; omega))
              have O9 : Hid (w9.ownsRow (B + 1) 28 7 (.slice (some ⟨gg, 0, none⟩) (k + 1) cap) (k + 1) (smpRw (resL ss step))) := by rw [HRS.out]; exact ho9
              refine hK.out _ _ ⟨fun _ => block_cell M9.out.b 3 _ rfl, block_cell M9.out.c.a 3 _ rfl⟩ (fun hCb8 hSb8 => ?_)
              clear hK hCb7 hSb7 K
              clear ho9 hg9 ha9 hl9 M8 O8 G8 N8 L8
              try simp only [Go.Act.put, List.setIfInBounds_toArray]
              refine wpAnyS_take (i := 8) (oi := ?oib9) (v := .pointer (some ⟨B, 3, none⟩)) ?hib9 (by kernel_rfl) (by kernel_rfl) (by kernel_rfl) (lateK_iff (by rfl)) ?hqb9 ?hyb9 hCb8 hSb8 ?restb9
              case hib9 => simp only [List.getElem?_toArray, List.getElem?_cons_succ, List.getElem?_cons_zero, Option.some.injEq]; rfl
              case hqb9 => exact fun _ _ _ h => h
              case hyb9 =>
                refine Or.inl ⟨by kernel_rfl, fun V hV => ?_⟩
                clear hV
                go_simp
              intro hCb9 hSb9
              clear hCb8 hSb8
              try simp only [Go.Act.put]
              refine wpAnyS_ready (rs := [9]) (by kernel_rfl) (by simp) ?_
              refine AllReadyS.cons rfl hCb9 (fun K hK => ?_) AllReadyS.nil
              have x3 := block_cell M9.out.b 3 _ rfl; have f3 := block_free (k := 3) M9.out.b
              go_simp
              have M10 : Hid (RsB w #[.string nm, .int .i64 sp, .int .i64 st, .slice (some ⟨b, off, none⟩) ss.length sc, .slice lo ls.length lc, .slice to_ ts.length tc] #[.string ⟨#[]⟩, .int .i64 0, .int .i64 0, .slice none 0 0, .slice none 0 0, .slice none 0 0] B #[.string nm, .int .i64 sp, .int .i64 st, (.slice (some ⟨gg, 0, none⟩) (k + 1) cap), .slice a2 ls.length c2, .slice a3 ts.length c3] (w9.setCell ⟨B, 3, none⟩ (.slice (some ⟨gg, 0, none⟩) (k + 1) cap))) := M9.out.setB 3 _
              have O10 : Hid ((w9.setCell ⟨B, 3, none⟩ (.slice (some ⟨gg, 0, none⟩) (k + 1) cap)).ownsRow (B + 1) 28 7 (.slice (some ⟨gg, 0, none⟩) (k + 1) cap) (k + 1) (smpRw (resL ss step))) := own_setR O9.out (by omega) 3 _
              have G10 : Hid (w4.grownBy (w9.setCell ⟨B, 3, none⟩ (.slice (some ⟨gg, 0, none⟩) (k + 1) cap)) none) := grown_far G9.out HB4.out 3 _
              refine hK.out _ _ ⟨lateUp (by rfl), block_cell M10.out.c.a 3 _ rfl⟩ (fun hCb10 hSb10 => ?_)
              clear hK hCb9 hSb9 K
              clear x3 f3 M9 O9 G9
              generalize World.setCell w9 ⟨B, 3, none⟩ (.slice (some ⟨gg, 0, none⟩) (k + 1) cap) = W10 at *
              try simp only [Go.Act.put, List.setIfInBounds_toArray, List.set_cons_zero, List.set_cons_succ]
              refine wpAnyS_done (by kernel_rfl) ?_ _
              clear hCb10 hSb10
              have b0 := block_cell M10.out.b 0 _ rfl
              have b1 := block_cell M10.out.b 1 _ rfl
              have b2 := block_cell M10.out.b 2 _ rfl
              have b3 := block_cell M10.out.b 3 _ rfl
              have b4 := block_cell M10.out.b 4 _ rfl
              have b5 := block_cell M10.out.b 5 _ rfl
              have z0 := block_cell M10.out.c.z 0 _ rfl
              have y0 := block_free (k := 0) M10.out.c.z
              have z1 := block_cell M10.out.c.z 1 _ rfl
              have y1 := block_free (k := 1) M10.out.c.z
              have z2 := block_cell M10.out.c.z 2 _ rfl
              have y2 := block_free (k := 2) M10.out.c.z
              have z3 := block_cell M10.out.c.z 3 _ rfl
              have y3 := block_free (k := 3) M10.out.c.z
              have z4 := block_cell M10.out.c.z 4 _ rfl
              have y4 := block_free (k := 4) M10.out.c.z
              have z5 := block_cell M10.out.c.z 5 _ rfl
              have y5 := block_free (k := 5) M10.out.c.z
              go_wp2_with fail
              refine bodyPost_ret (v := .tuple #[.agg #[.string nm, .int .i64 sp, .int .i64 st, (.slice (some ⟨gg, 0, none⟩) (k + 1) cap), .slice a2 ls.length c2, .slice a3 ts.length c3], .int .i64 0]) (by simp [results, Try.results17, go_sem, z0, z1, z2, z3, z4, z5]) rfl ⟨?_, ((((((M10.out.setZ 0 _).setZ 1 _).setZ 2 _).setZ 3 _).setZ 4 _).setZ 5 _).c.g⟩
              have hlen : (resL ss step).length = k + 1 := by rw [resL_len, HSV.out, HN.out]
              have O2 : W10.ownsRow (B + 1) 28 7 (.slice (some ⟨gg, 0, none⟩) (k + 1) cap) (resL ss step).length (smpRw (resL ss step)) := by rw [hlen]; exact O10.out
              obtain ⟨ao, cp, hvv, hsm, hbb⟩ := own_smps O2
              injection hvv with e1 _ e3
              subst e1; subst e3
              refine ⟨_, rfl, some ⟨gg, 0, none⟩, cap, a2, c2, a3, c3, by simp only [Act.val]; rw [hlen], ?_⟩
              have hA : ActAt W10 ⟨nm, sp, st, some ⟨gg, 0, none⟩, cap, resL ss step, a2, c2, ls, a3, c3, ts⟩ := ⟨HA.out.ns, by show ((resL ss step).length : Int) ≤ _; rw [hlen]; omega, HA.out.ll, HA.out.tl, hsm, HAT.out.hl.grown G10.out, HAT.out.ht.grown G10.out⟩
              refine hA.far (N := w.heap.size + 2) ⟨fun p e => by have := (hbb _ e).1; have := M10.out.lt; omega, HFAR.out.l, HFAR.out.t⟩ (fun p hp => ?_)
              iterate 6 rw [World.cell?_setCell_other _ _ _ _ (fun e => by subst e; simp at hp)]
      · rw [if_neg d3] at hv
        simp only [Prod.mk.injEq] at hv
        obtain ⟨rfl, rfl⟩ := hv
        have hgt : decide ((20000 : Int) < q + 1) = true := by have := HCV.out; simp; omega
        have hgt2 : (20000 : Int) < q + 1 := by have := HCV.out; omega
        have hnl : a.ss.length ≠ 0 := fun h0 => by
          have e : a.ss = [] := List.eq_nil_of_length_eq_zero h0
          rw [e] at hsv
          have e0 : (0 : Int) = sv := hsv
          subst e0
          rw [Int.zero_add, Int.ediv_eq_zero_of_lt (by omega) (by omega)] at hq
          omega
        obtain ⟨nm, sp, st, so, sc, ss, lo, lc, ls, to_, tc, ts⟩ := a
        simp only [Act.val] at *
        have hz : ((ss.length : Int) == 0) = false := beq_eq_false_iff_ne.2 (by omega)
        clear hE hce hok ha hsv hnl
        have M0 := Lib.hid (ClB.new w #[.string nm, .int .i64 sp, .int .i64 st, .slice so ss.length sc, .slice lo ls.length lc, .slice to_ ts.length tc] #[.string ⟨#[]⟩, .int .i64 0, .int .i64 0, .slice none 0 0, .slice none 0 0, .slice none 0 0])
        go_enter Try.func17, Try.ntmps17
        go_wp2_with fail
        refine (check_any ⟨nm, sp, st, so, sc, ss, lo, lc, ls, to_, tc, ts⟩ _ (HA.out.grown M0.out.g) HCE).mono ?_; rintro e w1 ⟨rfl, hg1⟩
        have M1 := Lib.hid (M0.out.grown hg1)
        clear hg1 M0
        have u0 := block_cell M1.out.a 0 _ rfl
        have u1 := block_cell M1.out.a 1 _ rfl
        have u2 := block_cell M1.out.a 2 _ rfl
        have u3 := block_cell M1.out.a 3 _ rfl
        have u4 := block_cell M1.out.a 4 _ rfl
        have u5 := block_cell M1.out.a 5 _ rfl
        go_wp2_with fail
        refine (twithin_yes _ _ _ hs0 hs1 _).mono ?_; rintro e w2 ⟨rfl, rfl⟩
        go_wp2_with fail
        refine (span_any ⟨nm, sp, st, so, sc, ss, lo, lc, ls, to_, tc, ts⟩ (by show (ss.length : Int) ≤ _; omega) _ (HA.out.hs.grown M1.out.g) HSV).mono ?_; rintro e w3 ⟨rfl, hg3⟩
        have M2 := Lib.hid (M1.out.grown hg3)
        clear hg3 u0 u1 u2 u3 u4 u5
        have z0 := block_cell M2.out.z 0 _ rfl
        have y0 := block_free (k := 0) M2.out.z
        have z1 := block_cell M2.out.z 1 _ rfl
        have y1 := block_free (k := 1) M2.out.z
        have z2 := block_cell M2.out.z 2 _ rfl
        have y2 := block_free (k := 2) M2.out.z
        have z3 := block_cell M2.out.z 3 _ rfl
        have y3 := block_free (k := 3) M2.out.z
        have z4 := block_cell M2.out.z 4 _ rfl
        have y4 := block_free (k := 4) M2.out.z
        have z5 := block_cell M2.out.z 5 _ rfl
        have y5 := block_free (k := 5) M2.out.z
        go_wp2_with fail
        refine bodyPost_ret (v := .tuple #[.agg #[.string ⟨#[]⟩, .int .i64 0, .int .i64 0, .slice none 0 0, .slice none 0 0, .slice none 0 0], .int .i64 3]) (by simp [results, Try.results17, go_sem, z0, z1, z2, z3, z4, z5]) rfl ⟨⟨_, rfl, act0_is _⟩, ((((((M2.out.setZ 0 _).setZ 1 _).setZ 2 _).setZ 3 _).setZ 4 _).setZ 5 _).g⟩
    · rw [if_neg d2] at hv
      simp only [Prod.mk.injEq] at hv
      obtain ⟨rfl, rfl⟩ := hv
      have C2 : Hid (step < 1 ∨ 1000000 < step) := by show _ ∨ _; omega
      obtain ⟨nm, sp, st, so, sc, ss, lo, lc, ls, to_, tc, ts⟩ := a
      simp only [Act.val] at *
      clear hE hce hok ha hsv d2
      have M0 := Lib.hid (ClB.new w #[.string nm, .int .i64 sp, .int .i64 st, .slice so ss.length sc, .slice lo ls.length lc, .slice to_ ts.length tc] #[.string ⟨#[]⟩, .int .i64 0, .int .i64 0, .slice none 0 0, .slice none 0 0, .slice none 0 0])
      go_enter Try.func17, Try.ntmps17
      go_wp2_with fail
      refine (check_any ⟨nm, sp, st, so, sc, ss, lo, lc, ls, to_, tc, ts⟩ _ (HA.out.grown M0.out.g) HCE).mono ?_; rintro e w1 ⟨rfl, hg1⟩
      have M1 := Lib.hid (M0.out.grown hg1)
      clear hg1 M0
      have u0 := block_cell M1.out.a 0 _ rfl
      have u1 := block_cell M1.out.a 1 _ rfl
      have u2 := block_cell M1.out.a 2 _ rfl
      have u3 := block_cell M1.out.a 3 _ rfl
      have u4 := block_cell M1.out.a 4 _ rfl
      have u5 := block_cell M1.out.a 5 _ rfl
      go_wp2_with fail
      refine (twithin_no _ _ _ C2.out _).mono ?_; rintro e w3 ⟨rfl, rfl⟩
      have z0 := block_cell M1.out.z 0 _ rfl
      have y0 := block_free (k := 0) M1.out.z
      have z1 := block_cell M1.out.z 1 _ rfl
      have y1 := block_free (k := 1) M1.out.z
      have z2 := block_cell M1.out.z 2 _ rfl
      have y2 := block_free (k := 2) M1.out.z
      have z3 := block_cell M1.out.z 3 _ rfl
      have y3 := block_free (k := 3) M1.out.z
      have z4 := block_cell M1.out.z 4 _ rfl
      have y4 := block_free (k := 4) M1.out.z
      have z5 := block_cell M1.out.z 5 _ rfl
      have y5 := block_free (k := 5) M1.out.z
      go_wp2_with fail
      refine bodyPost_ret (v := .tuple #[.agg #[.string ⟨#[]⟩, .int .i64 0, .int .i64 0, .slice none 0 0, .slice none 0 0, .slice none 0 0], .int .i64 9]) (by simp [results, Try.results17, go_sem, z0, z1, z2, z3, z4, z5]) rfl ⟨⟨_, rfl, act0_is _⟩, ((((((M1.out.setZ 0 _).setZ 1 _).setZ 2 _).setZ 3 _).setZ 4 _).setZ 5 _).g⟩
  · rw [if_neg d1] at hv
    simp only [Prod.mk.injEq] at hv
    obtain ⟨rfl, rfl⟩ := hv
    have hne : (ce != 0) = true := by simpa using d1
    obtain ⟨nm, sp, st, so, sc, ss, lo, lc, ls, to_, tc, ts⟩ := a
    simp only [Act.val] at *
    clear hE hce ha d1
    have M0 := Lib.hid (ClB.new w #[.string nm, .int .i64 sp, .int .i64 st, .slice so ss.length sc, .slice lo ls.length lc, .slice to_ ts.length tc] #[.string ⟨#[]⟩, .int .i64 0, .int .i64 0, .slice none 0 0, .slice none 0 0, .slice none 0 0])
    go_enter Try.func17, Try.ntmps17
    go_wp2_with fail
    refine (check_any ⟨nm, sp, st, so, sc, ss, lo, lc, ls, to_, tc, ts⟩ _ (HA.out.grown M0.out.g) HCE).mono ?_; rintro e w1 ⟨rfl, hg1⟩
    have M1 := Lib.hid (M0.out.grown hg1)
    clear hg1 M0
    have z0 := block_cell M1.out.z 0 _ rfl
    have y0 := block_free (k := 0) M1.out.z
    have z1 := block_cell M1.out.z 1 _ rfl
    have y1 := block_free (k := 1) M1.out.z
    have z2 := block_cell M1.out.z 2 _ rfl
    have y2 := block_free (k := 2) M1.out.z
    have z3 := block_cell M1.out.z 3 _ rfl
    have y3 := block_free (k := 3) M1.out.z
    have z4 := block_cell M1.out.z 4 _ rfl
    have y4 := block_free (k := 4) M1.out.z
    have z5 := block_cell M1.out.z 5 _ rfl
    have y5 := block_free (k := 5) M1.out.z
    go_wp2_with fail
    refine bodyPost_ret (v := .tuple #[.agg #[.string ⟨#[]⟩, .int .i64 0, .int .i64 0, .slice none 0 0, .slice none 0 0, .slice none 0 0], .int .i64 ce]) (by simp [results, Try.results17, go_sem, z0, z1, z2, z3, z4, z5]) rfl ⟨⟨_, rfl, act0_is _⟩, ((((((M1.out.setZ 0 _).setZ 1 _).setZ 2 _).setZ 3 _).setZ 4 _).setZ 5 _).g⟩

end Go.Proofs.Ytgkhhfojioepgaa
