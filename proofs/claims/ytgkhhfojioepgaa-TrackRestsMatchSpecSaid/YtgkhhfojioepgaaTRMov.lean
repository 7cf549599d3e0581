/- Moving of the reference, for any activity. -/
import Derived.Test.YtgkhhfojioepgaaTMovP
import Derived.Test.YtgkhhfojioepgaaTRIdle
import Derived.Test.YtgkhhfojioepgaaTRStill
import Derived.Test.YtgkhhfojioepgaaBaseA
import Derived.Test.YtgkhhfojioepgaaTDelF
namespace Go.Proofs.Ytgkhhfojioepgaa
open Go.RowKit
set_option linter.unusedSimpArgs false
set_option linter.unusedVariables false

theorem act_cellsR {w : World} {b : Nat} {n s d o l g : Value} {t : TypeId} (h : w.heap[b]? = some (.cells #[n, s, d, o, l, g] t (0, 0))) : w.cell? ⟨b, 0, none⟩ = some n ∧ w.cell? ⟨b, 1, none⟩ = some s ∧ w.cell? ⟨b, 2, none⟩ = some d ∧ w.cell? ⟨b, 3, none⟩ = some o ∧ w.cell? ⟨b, 4, none⟩ = some l ∧ w.cell? ⟨b, 5, none⟩ = some g := ⟨mblock_cell h 0 _ rfl, mblock_cell h 1 _ rfl, mblock_cell h 2 _ rfl, mblock_cell h 3 _ rfl, mblock_cell h 4 _ rfl, mblock_cell h 5 _ rfl⟩

set_option maxRecDepth 100000 in
set_option maxHeartbeats 3200000 in
theorem rMoving_any (a : Act) (gap slow least : Int) (w : World) (ha : ActAt w a) {V E : Int} (hE : Hid (movO a gap slow least = (V, E))) :
    Calls Try.prog 26 #[a.val, .int .i64 gap, .int .i64 slow, .int .i64 least] w fun x w' => x = .returned (.tuple #[.int .i64 V, .int .i64 E]) ∧ w.grownBy w' none := by
  obtain ⟨X, E1, hI⟩ : ∃ X E1, idleE a gap = (X, E1) := ⟨_, _, rfl⟩
  obtain ⟨Y, E2, hS⟩ : ∃ Y E2, stillE a slow least = (Y, E2) := ⟨_, _, rfl⟩
  have hv := hE.out
  unfold movO at hv
  rw [hI, hS] at hv
  simp only at hv
  have HI := Lib.hid hI; have HS := Lib.hid hS; have HA := Lib.hid ha; have HV := Lib.hid hv
  clear hE ha hI hS hv
  obtain ⟨nm, sp, st, so, sc, ss, lo, lc, ls, to_, tc, ts⟩ := a
  have G1 : Hid (w.grownBy (w.alloc (.cells #[.string nm, .int .i64 sp, .int .i64 st, .slice so ss.length sc, .slice lo ls.length lc, .slice to_ ts.length tc] 26)) none) := World.grownBy_alloc _ _ _
  have ZB : Hid ((w.alloc (.cells #[.string nm, .int .i64 sp, .int .i64 st, .slice so ss.length sc, .slice lo ls.length lc, .slice to_ ts.length tc] 26)).heap[w.heap.size]? = some (.cells #[.string nm, .int .i64 sp, .int .i64 st, .slice so ss.length sc, .slice lo ls.length lc, .slice to_ ts.length tc] 26 (0, 0))) := World.alloc_heap_new w _
  simp only [Act.val] at *
  go_enter Try.func26, Try.ntmps26
  go_wp2_with fail
  refine (rIdle_any ⟨nm, sp, st, so, sc, ss, lo, lc, ls, to_, tc, ts⟩ gap _ (HA.out.grown G1.out) HI).mono ?_; rintro e w1 ⟨⟨v1, rfl, ho1⟩, hg1⟩
  have HO1 := Lib.hid ho1
  have HB1 : Hid (w1.heap[w.heap.size]? = some (.cells #[.string nm, .int .i64 sp, .int .i64 st, .slice so ss.length sc, .slice lo ls.length lc, .slice to_ ts.length tc] 26 (0, 0))) := by
    have q := hg1.block w.heap.size (by simp) (by simp)
    show _ = _; rw [q]; exact ZB.out
  have HG1 : Hid (w.grownBy w1 none) := grown_trans G1.out hg1
  clear ho1 hg1
  by_cases c1 : E1 = 0
  · subst c1
    have hv := HV.out
    rw [if_pos rfl] at hv
    have HV2 := Lib.hid hv
    clear HV hv
    obtain ⟨z0, z1, z2, z3, z4, z5⟩ := act_cellsR HB1.out
    go_wp2_with fail
    refine (rStill_any ⟨nm, sp, st, so, sc, ss, lo, lc, ls, to_, tc, ts⟩ slow least _ (HA.out.grown HG1.out) HS).mono ?_; rintro e w2 ⟨⟨v2, rfl, ho2⟩, hg2⟩
    have HO2 := Lib.hid ho2
    have HO1' := Lib.hid (keptR HO1.out hg2)
    have HB2 : Hid (w2.heap[w.heap.size]? = some (.cells #[.string nm, .int .i64 sp, .int .i64 st, .slice so ss.length sc, .slice lo ls.length lc, .slice to_ ts.length tc] 26 (0, 0))) := by
      have q := hg2.block w.heap.size (lt_of_block HB1.out) (by simp)
      show _ = _; rw [q]; exact HB1.out
    have HG2 : Hid (w.grownBy w2 none) := grown_trans HG1.out hg2
    clear ho2 hg2 z0 z1 z2 z3 z4 z5 HO1 HB1 HG1
    by_cases c2 : E2 = 0
    · subst c2
      have hv := HV2.out
      rw [if_pos rfl] at hv
      simp only [Prod.mk.injEq] at hv
      obtain ⟨hv1, rfl⟩ := hv
      have HRX := Lib.hid (idle_rests HI.out); have HRY := Lib.hid (still_rests HS.out)
      have HVV := Lib.hid hv1
      clear HV2 hv1
      have hlx := HRX.out.len; have hly := HRY.out.len; have hl20 := HRX.out.ok.len
      simp only at hlx hly hl20
      obtain ⟨ao1, cp1, rfl, hcp1, hr1, hbk1⟩ := own_rows spCs_len HO1'.out
      obtain ⟨ao2, cp2, rfl, hcp2, hr2, hbk2⟩ := own_rows spCs_len HO2.out
      have HR1 := Lib.hid hr1; have HR2 := Lib.hid hr2
      clear hcp1 hr1 hbk1 hcp2 hr2 hbk2 HO1' HO2
      have hz3 := (act_cellsR HB2.out).2.2.2.1
      have hsl : Hid (SmpsAt w2 so ss) := HA.out.hs.grown HG2.out
      clear HB2
      go_wp2_with fail
      obtain ⟨wq, rfl⟩ : ∃ W : World, W = w2 := ⟨_, rfl⟩
      go_loopw [13, 14, 15, 16] (fun sv iv kv nv wr => ∃ m i k : Nat, Hid (World.grownBy wq wr none) ∧ m ≤ ss.length - 1 ∧ nv = .int .i64 ((m : Int) + 1) ∧ sv = .int .i64 (movR (tmS ss) X Y m) ∧ iv = .int .i64 i ∧ kv = .int .i64 k ∧ Hid (Ptr X (tmS ss m) i) ∧ Hid (Ptr Y (tmS ss m) k) ∧ Hid (0 ≤ movR (tmS ss) X Y m ∧ movR (tmS ss) X Y m ≤ 1000000)) (fun _ _ _ nv _ => ss.length - (intOf nv).toNat)
      case atStart => exact ⟨0, 0, 0, World.grownBy.refl _ _, Nat.zero_le _, rfl, rfl, rfl, rfl, ⟨Nat.zero_le _, fun j h => absurd h (by omega)⟩, ⟨Nat.zero_le _, fun j h => absurd h (by omega)⟩, by show _ ∧ _; simp [movR]⟩
      case round =>
        obtain ⟨m, i, k, hgr, hm, rfl, rfl, rfl, rfl, hpi, hpk, hmb⟩ := hrel
        obtain ⟨sm, hsm⟩ : ∃ z, movR (tmS ss) X Y m = z := ⟨_, rfl⟩
        rw [hsm] at hmb
        have hsb := hmb.out
        have HSM := Lib.hid hsm
        rw [hsm]
        clear hsm hmb
        by_cases hlt : m + 1 < ss.length
        · obtain ⟨gb, ob, rfl, hc⟩ := smps_at1 hsl.out (by show 0 < ss.length; omega)
          have hmL : m < ss.length := by omega
          obtain ⟨ti, hti⟩ : ∃ t, tmS ss m = t := ⟨_, rfl⟩
          obtain ⟨tj, htj⟩ : ∃ t, tmS ss (m + 1) = t := ⟨_, rfl⟩
          have bi := HRX.out.ok.inn m hmL; have bj := HRX.out.ok.inn (m + 1) hlt
          have bti : 0 ≤ ti ∧ ti ≤ 1000000 := by rw [← hti]; exact ⟨bi.1, bi.2.1⟩
          have btj : 0 ≤ tj ∧ tj ≤ 1000000 := by rw [← htj]; exact ⟨bj.1, bj.2.1⟩
          have bij : ti < tj := by rw [← hti, ← htj]; exact HRX.out.ok.up m hlt
          have ci : wr.cell? ⟨gb, ob + m * 7, none⟩ = some (.int .i64 ti) := by
            have q := grown_cell hgr.out (hc m hmL).1
            rw [← smpD_at hmL] at q
            rw [q, ← hti]; rfl
          have cj : wr.cell? ⟨gb, ob + (m + 1) * 7, none⟩ = some (.int .i64 tj) := by
            have q := grown_cell hgr.out (hc (m + 1) hlt).1
            rw [← smpD_at hlt] at q
            rw [q, ← htj]; rfl
          have z3 := grown_cell hgr.out hz3
          have w1 : IntKind.i64.wrap ((m : Int) + 1 - 1) = (m : Int) := by rw [IntWalk.i64_in _ (by omega)]; omega
          have q0 : (m : Int) + 1 < (ss.length : Int) := by omega
          have e1 : ((m + 1 : Nat) : Int) = (m : Int) + 1 := by omega
          have HTI := Lib.hid hti; have HTJ := Lib.hid htj
          have HPI : Hid (Ptr X ti i) := by show Ptr _ _ _; rw [← hti]; exact hpi.out
          have HPK : Hid (Ptr Y ti k) := by show Ptr _ _ _; rw [← hti]; exact hpk.out
          clear bi bj hc hti htj hpi hpk
          go_wp2_with fail
          go_quiet (fail)
          obtain ⟨wd, hwd⟩ : ∃ W, wr.drewN nq = W := ⟨_, rfl⟩
          have HGD : Hid (World.grownBy wq wd none) := by show World.grownBy _ _ _; rw [← hwd]; exact grown_trans hgr.out (grown_drewN _ none nq)
          rw [hwd]
          have HXD := Lib.hid (HR1.out.grown HGD.out); have HYD := Lib.hid (HR2.out.grown HGD.out)
          clear hwd z3 ci cj hgr
          go_wp2_with fail
          go_loopw [14] (fun iv wr => wd = wr ∧ ∃ i : Nat, iv = .int .i64 i ∧ Hid (Ptr X ti i)) (fun iv _ => X.length - (intOf iv).toNat)
          case atStart => exact ⟨rfl, i, rfl, HPI.out⟩
          case round =>
            clear HPI
            obtain ⟨rfl, i, rfl, HPI⟩ := hrel
            have hlx0 := HPI.out.1
            by_cases hlx : i < X.length
            · obtain ⟨gx, ox, rfl, hcx⟩ := sp_at HXD.out (by omega)
              obtain ⟨cx0, cx1⟩ := hcx i hlx
              have hqx : (i : Int) < (X.length : Int) := by omega
              obtain ⟨xt, hxt⟩ : ∃ z, X[i].to_ = z := ⟨_, rfl⟩
              obtain ⟨xf, hxf⟩ : ∃ z, X[i].fr = z := ⟨_, rfl⟩
              rw [hxf] at cx0; rw [hxt] at cx1
              have HxT := Lib.hid hxt; have HxF := Lib.hid hxf
              clear hcx hxt hxf
              by_cases htx : xt < ti
              · have HPN : Hid (Ptr X ti (i + 1)) := ptr_step HPI.out hlx (by rw [HxT.out]; exact htx)
                go_wp2_with fail
                go_roundw
                case rel => exact ⟨trivial, i + 1, by go_num, HPN.out⟩
                case measure => simp [intOf]; omega
              · have HEx : Hid (∀ hl : i < X.length, ti ≤ X[i].to_) := fun _ => by rw [HxT.out]; omega
                by_cases hfx : ti < xf
                · have HCX : Hid (covS X ti = false) := (ptr_cov HRX.out HPI.out HEx.out).2 fun _ => by rw [HxF.out]; exact hfx
                  go_wp2_with fail
                  go_loopw [15] (fun iv wr => wd = wr ∧ ∃ k : Nat, iv = .int .i64 k ∧ Hid (Ptr Y ti k)) (fun iv _ => Y.length - (intOf iv).toNat)
                  case atStart => exact ⟨rfl, k, rfl, HPK.out⟩
                  case round =>
                    clear HPK
                    obtain ⟨rfl, k, rfl, HPK⟩ := hrel
                    have hly0 := HPK.out.1
                    by_cases hly : k < Y.length
                    · obtain ⟨gy, oy, rfl, hcy⟩ := sp_at HYD.out (by omega)
                      obtain ⟨cy0, cy1⟩ := hcy k hly
                      have hqy : (k : Int) < (Y.length : Int) := by omega
                      obtain ⟨yt, hyt⟩ : ∃ z, Y[k].to_ = z := ⟨_, rfl⟩
                      obtain ⟨yf, hyf⟩ : ∃ z, Y[k].fr = z := ⟨_, rfl⟩
                      rw [hyf] at cy0; rw [hyt] at cy1
                      have HyT := Lib.hid hyt; have HyF := Lib.hid hyf
                      clear hcy hyt hyf
                      by_cases hty : yt < ti
                      · have HPN : Hid (Ptr Y ti (k + 1)) := ptr_step HPK.out hly (by rw [HyT.out]; exact hty)
                        go_wp2_with fail
                        go_roundw
                        case rel => exact ⟨trivial, k + 1, by go_num, HPN.out⟩
                        case measure => simp [intOf]; omega
                      · have HEy : Hid (∀ hl : k < Y.length, ti ≤ Y[k].to_) := fun _ => by rw [HyT.out]; omega
                        by_cases hfy : ti < yf
                        · have HCY : Hid (covS Y ti = false) := (ptr_cov HRY.out HPK.out HEy.out).2 fun _ => by rw [HyF.out]; exact hfy
                          go_wp2_with fail
                          have HSUM : Hid (movR (tmS ss) X Y (m + 1) = sm + (tj - ti)) := by
                            show movR (tmS ss) X Y m + (if covS X (tmS ss m) = false ∧ covS Y (tmS ss m) = false then tmS ss (m + 1) - tmS ss m else 0) = _
                            rw [HSM.out, HTI.out, HTJ.out, HCX.out, HCY.out]; simp
                          have HBD2 := Lib.hid (movR_bd HRX.out.ok X Y (m + 1) (by omega))
                          have HPX2 : Hid (Ptr X (tmS ss (m + 1)) i) := ptr_up HPI.out (by rw [HTJ.out]; omega)
                          have HPY2 : Hid (Ptr Y (tmS ss (m + 1)) k) := ptr_up HPK.out (by rw [HTJ.out]; omega)
                          have wa : IntKind.i64.wrap (tj - ti) = tj - ti := IntWalk.i64_in _ (by omega)
                          have wb : IntKind.i64.wrap (sm + (tj - ti)) = sm + (tj - ti) := IntWalk.i64_in _ (by omega)
                          go_wp2_with fail
                          go_roundw
                          case rel => exact ⟨m + 1, i, k, HGD.out, by omega, by go_num, by rw [HSUM.out], (by first | rfl | (congr 1; omega)), (by first | rfl | (congr 1; omega)), HPX2.out, HPY2.out, HBD2.out⟩
                          case measure => simp [intOf]; omega
                        · have HCY : Hid (covS Y ti = true) := by
                            show _ = _
                            rw [← Bool.not_eq_false]
                            exact fun h => hfy (by have q := (ptr_cov HRY.out HPK.out HEy.out).1 h hly; rw [HyF.out] at q; exact q)
                          go_wp2_with fail
                          have HSUM : Hid (movR (tmS ss) X Y (m + 1) = sm + 0) := by
                            show movR (tmS ss) X Y m + (if covS X (tmS ss m) = false ∧ covS Y (tmS ss m) = false then tmS ss (m + 1) - tmS ss m else 0) = _
                            rw [HSM.out, HTI.out, HTJ.out, HCX.out, HCY.out]; simp
                          have HBD2 := Lib.hid (movR_bd HRX.out.ok X Y (m + 1) (by omega))
                          have HPX2 : Hid (Ptr X (tmS ss (m + 1)) i) := ptr_up HPI.out (by rw [HTJ.out]; omega)
                          have HPY2 : Hid (Ptr Y (tmS ss (m + 1)) k) := ptr_up HPK.out (by rw [HTJ.out]; omega)
                          have wa : IntKind.i64.wrap (tj - ti) = tj - ti := IntWalk.i64_in _ (by omega)
                          have wb : IntKind.i64.wrap (sm + (tj - ti)) = sm + (tj - ti) := IntWalk.i64_in _ (by omega)
                          go_wp2_with fail
                          go_roundw
                          case rel => exact ⟨m + 1, i, k, HGD.out, by omega, by go_num, by rw [HSUM.out]; simp, (by first | rfl | (congr 1; omega)), (by first | rfl | (congr 1; omega)), HPX2.out, HPY2.out, HBD2.out⟩
                          case measure => simp [intOf]; omega
                    · have ey : k = Y.length := by omega
                      have HCY : Hid (covS Y ti = false) := (ptr_cov HRY.out HPK.out (fun h => absurd h hly)).2 (fun h => absurd h hly)
                      have hny : ¬ ((k : Int) < (Y.length : Int)) := by omega
                      have hby : ((k : Int) == (Y.length : Int)) = true := by rw [ey]; simp
                      go_wp2_with fail
                      have HSUM : Hid (movR (tmS ss) X Y (m + 1) = sm + (tj - ti)) := by
                        show movR (tmS ss) X Y m + (if covS X (tmS ss m) = false ∧ covS Y (tmS ss m) = false then tmS ss (m + 1) - tmS ss m else 0) = _
                        rw [HSM.out, HTI.out, HTJ.out, HCX.out, HCY.out]; simp
                      have HBD2 := Lib.hid (movR_bd HRX.out.ok X Y (m + 1) (by omega))
                      have HPX2 : Hid (Ptr X (tmS ss (m + 1)) i) := ptr_up HPI.out (by rw [HTJ.out]; omega)
                      have HPY2 : Hid (Ptr Y (tmS ss (m + 1)) k) := ptr_up HPK.out (by rw [HTJ.out]; omega)
                      have wa : IntKind.i64.wrap (tj - ti) = tj - ti := IntWalk.i64_in _ (by omega)
                      have wb : IntKind.i64.wrap (sm + (tj - ti)) = sm + (tj - ti) := IntWalk.i64_in _ (by omega)
                      go_wp2_with fail
                      go_roundw
                      case rel => exact ⟨m + 1, i, k, HGD.out, by omega, by go_num, by rw [HSUM.out], (by first | rfl | (congr 1; omega)), (by first | rfl | (congr 1; omega)), HPX2.out, HPY2.out, HBD2.out⟩
                      case measure => simp [intOf]; omega
                · have HCX : Hid (covS X ti = true) := by
                    show _ = _
                    rw [← Bool.not_eq_false]
                    exact fun h => hfx (by have q := (ptr_cov HRX.out HPI.out HEx.out).1 h hlx; rw [HxF.out] at q; exact q)
                  go_wp2_with fail
                  go_loopw [15] (fun iv wr => wd = wr ∧ ∃ k : Nat, iv = .int .i64 k ∧ Hid (Ptr Y ti k)) (fun iv _ => Y.length - (intOf iv).toNat)
                  case atStart => exact ⟨rfl, k, rfl, HPK.out⟩
                  case round =>
                    clear HPK
                    obtain ⟨rfl, k, rfl, HPK⟩ := hrel
                    have hly0 := HPK.out.1
                    by_cases hly : k < Y.length
                    · obtain ⟨gy, oy, rfl, hcy⟩ := sp_at HYD.out (by omega)
                      obtain ⟨cy0, cy1⟩ := hcy k hly
                      have hqy : (k : Int) < (Y.length : Int) := by omega
                      obtain ⟨yt, hyt⟩ : ∃ z, Y[k].to_ = z := ⟨_, rfl⟩
                      obtain ⟨yf, hyf⟩ : ∃ z, Y[k].fr = z := ⟨_, rfl⟩
                      rw [hyf] at cy0; rw [hyt] at cy1
                      have HyT := Lib.hid hyt; have HyF := Lib.hid hyf
                      clear hcy hyt hyf
                      by_cases hty : yt < ti
                      · have HPN : Hid (Ptr Y ti (k + 1)) := ptr_step HPK.out hly (by rw [HyT.out]; exact hty)
                        go_wp2_with fail
                        go_roundw
                        case rel => exact ⟨trivial, k + 1, by go_num, HPN.out⟩
                        case measure => simp [intOf]; omega
                      · have HEy : Hid (∀ hl : k < Y.length, ti ≤ Y[k].to_) := fun _ => by rw [HyT.out]; omega
                        by_cases hfy : ti < yf
                        · have HCY : Hid (covS Y ti = false) := (ptr_cov HRY.out HPK.out HEy.out).2 fun _ => by rw [HyF.out]; exact hfy
                          go_wp2_with fail
                          have HSUM : Hid (movR (tmS ss) X Y (m + 1) = sm + 0) := by
                            show movR (tmS ss) X Y m + (if covS X (tmS ss m) = false ∧ covS Y (tmS ss m) = false then tmS ss (m + 1) - tmS ss m else 0) = _
                            rw [HSM.out, HTI.out, HTJ.out, HCX.out, HCY.out]; simp
                          have HBD2 := Lib.hid (movR_bd HRX.out.ok X Y (m + 1) (by omega))
                          have HPX2 : Hid (Ptr X (tmS ss (m + 1)) i) := ptr_up HPI.out (by rw [HTJ.out]; omega)
                          have HPY2 : Hid (Ptr Y (tmS ss (m + 1)) k) := ptr_up HPK.out (by rw [HTJ.out]; omega)
                          have wa : IntKind.i64.wrap (tj - ti) = tj - ti := IntWalk.i64_in _ (by omega)
                          have wb : IntKind.i64.wrap (sm + (tj - ti)) = sm + (tj - ti) := IntWalk.i64_in _ (by omega)
                          go_wp2_with fail
                          go_roundw
                          case rel => exact ⟨m + 1, i, k, HGD.out, by omega, by go_num, by rw [HSUM.out]; simp, (by first | rfl | (congr 1; omega)), (by first | rfl | (congr 1; omega)), HPX2.out, HPY2.out, HBD2.out⟩
                          case measure => simp [intOf]; omega
                        · have HCY : Hid (covS Y ti = true) := by
                            show _ = _
                            rw [← Bool.not_eq_false]
                            exact fun h => hfy (by have q := (ptr_cov HRY.out HPK.out HEy.out).1 h hly; rw [HyF.out] at q; exact q)
                          go_wp2_with fail
                          have HSUM : Hid (movR (tmS ss) X Y (m + 1) = sm + 0) := by
                            show movR (tmS ss) X Y m + (if covS X (tmS ss m) = false ∧ covS Y (tmS ss m) = false then tmS ss (m + 1) - tmS ss m else 0) = _
                            rw [HSM.out, HTI.out, HTJ.out, HCX.out, HCY.out]; simp
                          have HBD2 := Lib.hid (movR_bd HRX.out.ok X Y (m + 1) (by omega))
                          have HPX2 : Hid (Ptr X (tmS ss (m + 1)) i) := ptr_up HPI.out (by rw [HTJ.out]; omega)
                          have HPY2 : Hid (Ptr Y (tmS ss (m + 1)) k) := ptr_up HPK.out (by rw [HTJ.out]; omega)
                          have wa : IntKind.i64.wrap (tj - ti) = tj - ti := IntWalk.i64_in _ (by omega)
                          have wb : IntKind.i64.wrap (sm + (tj - ti)) = sm + (tj - ti) := IntWalk.i64_in _ (by omega)
                          go_wp2_with fail
                          go_roundw
                          case rel => exact ⟨m + 1, i, k, HGD.out, by omega, by go_num, by rw [HSUM.out]; simp, (by first | rfl | (congr 1; omega)), (by first | rfl | (congr 1; omega)), HPX2.out, HPY2.out, HBD2.out⟩
                          case measure => simp [intOf]; omega
                    · have ey : k = Y.length := by omega
                      have HCY : Hid (covS Y ti = false) := (ptr_cov HRY.out HPK.out (fun h => absurd h hly)).2 (fun h => absurd h hly)
                      have hny : ¬ ((k : Int) < (Y.length : Int)) := by omega
                      have hby : ((k : Int) == (Y.length : Int)) = true := by rw [ey]; simp
                      go_wp2_with fail
                      have HSUM : Hid (movR (tmS ss) X Y (m + 1) = sm + 0) := by
                        show movR (tmS ss) X Y m + (if covS X (tmS ss m) = false ∧ covS Y (tmS ss m) = false then tmS ss (m + 1) - tmS ss m else 0) = _
                        rw [HSM.out, HTI.out, HTJ.out, HCX.out, HCY.out]; simp
                      have HBD2 := Lib.hid (movR_bd HRX.out.ok X Y (m + 1) (by omega))
                      have HPX2 : Hid (Ptr X (tmS ss (m + 1)) i) := ptr_up HPI.out (by rw [HTJ.out]; omega)
                      have HPY2 : Hid (Ptr Y (tmS ss (m + 1)) k) := ptr_up HPK.out (by rw [HTJ.out]; omega)
                      have wa : IntKind.i64.wrap (tj - ti) = tj - ti := IntWalk.i64_in _ (by omega)
                      have wb : IntKind.i64.wrap (sm + (tj - ti)) = sm + (tj - ti) := IntWalk.i64_in _ (by omega)
                      go_wp2_with fail
                      go_roundw
                      case rel => exact ⟨m + 1, i, k, HGD.out, by omega, by go_num, by rw [HSUM.out]; simp, (by first | rfl | (congr 1; omega)), (by first | rfl | (congr 1; omega)), HPX2.out, HPY2.out, HBD2.out⟩
                      case measure => simp [intOf]; omega
            · have ex : i = X.length := by omega
              have HCX : Hid (covS X ti = false) := (ptr_cov HRX.out HPI.out (fun h => absurd h hlx)).2 (fun h => absurd h hlx)
              have hnx : ¬ ((i : Int) < (X.length : Int)) := by omega
              have hbx : ((i : Int) == (X.length : Int)) = true := by rw [ex]; simp
              go_wp2_with fail
              go_loopw [15] (fun iv wr => wd = wr ∧ ∃ k : Nat, iv = .int .i64 k ∧ Hid (Ptr Y ti k)) (fun iv _ => Y.length - (intOf iv).toNat)
              case atStart => exact ⟨rfl, k, rfl, HPK.out⟩
              case round =>
                clear HPK
                obtain ⟨rfl, k, rfl, HPK⟩ := hrel
                have hly0 := HPK.out.1
                by_cases hly : k < Y.length
                · obtain ⟨gy, oy, rfl, hcy⟩ := sp_at HYD.out (by omega)
                  obtain ⟨cy0, cy1⟩ := hcy k hly
                  have hqy : (k : Int) < (Y.length : Int) := by omega
                  obtain ⟨yt, hyt⟩ : ∃ z, Y[k].to_ = z := ⟨_, rfl⟩
                  obtain ⟨yf, hyf⟩ : ∃ z, Y[k].fr = z := ⟨_, rfl⟩
                  rw [hyf] at cy0; rw [hyt] at cy1
                  have HyT := Lib.hid hyt; have HyF := Lib.hid hyf
                  clear hcy hyt hyf
                  by_cases hty : yt < ti
                  · have HPN : Hid (Ptr Y ti (k + 1)) := ptr_step HPK.out hly (by rw [HyT.out]; exact hty)
                    go_wp2_with fail
                    go_roundw
                    case rel => exact ⟨trivial, k + 1, by go_num, HPN.out⟩
                    case measure => simp [intOf]; omega
                  · have HEy : Hid (∀ hl : k < Y.length, ti ≤ Y[k].to_) := fun _ => by rw [HyT.out]; omega
                    by_cases hfy : ti < yf
                    · have HCY : Hid (covS Y ti = false) := (ptr_cov HRY.out HPK.out HEy.out).2 fun _ => by rw [HyF.out]; exact hfy
                      go_wp2_with fail
                      have HSUM : Hid (movR (tmS ss) X Y (m + 1) = sm + (tj - ti)) := by
                        show movR (tmS ss) X Y m + (if covS X (tmS ss m) = false ∧ covS Y (tmS ss m) = false then tmS ss (m + 1) - tmS ss m else 0) = _
                        rw [HSM.out, HTI.out, HTJ.out, HCX.out, HCY.out]; simp
                      have HBD2 := Lib.hid (movR_bd HRX.out.ok X Y (m + 1) (by omega))
                      have HPX2 : Hid (Ptr X (tmS ss (m + 1)) i) := ptr_up HPI.out (by rw [HTJ.out]; omega)
                      have HPY2 : Hid (Ptr Y (tmS ss (m + 1)) k) := ptr_up HPK.out (by rw [HTJ.out]; omega)
                      have wa : IntKind.i64.wrap (tj - ti) = tj - ti := IntWalk.i64_in _ (by omega)
                      have wb : IntKind.i64.wrap (sm + (tj - ti)) = sm + (tj - ti) := IntWalk.i64_in _ (by omega)
                      go_wp2_with fail
                      go_roundw
                      case rel => exact ⟨m + 1, i, k, HGD.out, by omega, by go_num, by rw [HSUM.out], (by first | rfl | (congr 1; omega)), (by first | rfl | (congr 1; omega)), HPX2.out, HPY2.out, HBD2.out⟩
                      case measure => simp [intOf]; omega
                    · have HCY : Hid (covS Y ti = true) := by
                        show _ = _
                        rw [← Bool.not_eq_false]
                        exact fun h => hfy (by have q := (ptr_cov HRY.out HPK.out HEy.out).1 h hly; rw [HyF.out] at q; exact q)
                      go_wp2_with fail
                      have HSUM : Hid (movR (tmS ss) X Y (m + 1) = sm + 0) := by
                        show movR (tmS ss) X Y m + (if covS X (tmS ss m) = false ∧ covS Y (tmS ss m) = false then tmS ss (m + 1) - tmS ss m else 0) = _
                        rw [HSM.out, HTI.out, HTJ.out, HCX.out, HCY.out]; simp
                      have HBD2 := Lib.hid (movR_bd HRX.out.ok X Y (m + 1) (by omega))
                      have HPX2 : Hid (Ptr X (tmS ss (m + 1)) i) := ptr_up HPI.out (by rw [HTJ.out]; omega)
                      have HPY2 : Hid (Ptr Y (tmS ss (m + 1)) k) := ptr_up HPK.out (by rw [HTJ.out]; omega)
                      have wa : IntKind.i64.wrap (tj - ti) = tj - ti := IntWalk.i64_in _ (by omega)
                      have wb : IntKind.i64.wrap (sm + (tj - ti)) = sm + (tj - ti) := IntWalk.i64_in _ (by omega)
                      go_wp2_with fail
                      go_roundw
                      case rel => exact ⟨m + 1, i, k, HGD.out, by omega, by go_num, by rw [HSUM.out]; simp, (by first | rfl | (congr 1; omega)), (by first | rfl | (congr 1; omega)), HPX2.out, HPY2.out, HBD2.out⟩
                      case measure => simp [intOf]; omega
                · have ey : k = Y.length := by omega
                  have HCY : Hid (covS Y ti = false) := (ptr_cov HRY.out HPK.out (fun h => absurd h hly)).2 (fun h => absurd h hly)
                  have hny : ¬ ((k : Int) < (Y.length : Int)) := by omega
                  have hby : ((k : Int) == (Y.length : Int)) = true := by rw [ey]; simp
                  go_wp2_with fail
                  have HSUM : Hid (movR (tmS ss) X Y (m + 1) = sm + (tj - ti)) := by
                    show movR (tmS ss) X Y m + (if covS X (tmS ss m) = false ∧ covS Y (tmS ss m) = false then tmS ss (m + 1) - tmS ss m else 0) = _
                    rw [HSM.out, HTI.out, HTJ.out, HCX.out, HCY.out]; simp
                  have HBD2 := Lib.hid (movR_bd HRX.out.ok X Y (m + 1) (by omega))
                  have HPX2 : Hid (Ptr X (tmS ss (m + 1)) i) := ptr_up HPI.out (by rw [HTJ.out]; omega)
                  have HPY2 : Hid (Ptr Y (tmS ss (m + 1)) k) := ptr_up HPK.out (by rw [HTJ.out]; omega)
                  have wa : IntKind.i64.wrap (tj - ti) = tj - ti := IntWalk.i64_in _ (by omega)
                  have wb : IntKind.i64.wrap (sm + (tj - ti)) = sm + (tj - ti) := IntWalk.i64_in _ (by omega)
                  go_wp2_with fail
                  go_roundw
                  case rel => exact ⟨m + 1, i, k, HGD.out, by omega, by go_num, by rw [HSUM.out], (by first | rfl | (congr 1; omega)), (by first | rfl | (congr 1; omega)), HPX2.out, HPY2.out, HBD2.out⟩
                  case measure => simp [intOf]; omega
        · have HF : Hid (sm = V) := by
            show _ = _
            rw [← HSM.out, show m = ss.length - 1 by omega]; exact HVV.out
          have z3 := grown_cell hgr.out hz3
          have q0 : ¬ ((m : Int) + 1 < (ss.length : Int)) := by omega
          have HG9 := Lib.hid (grown_trans HG2.out hgr.out)
          have hf := HF.out
          subst hf
          go_wp2_with fail
          go_ret2
          exact ⟨rfl, HG9.out⟩
    · have hv := HV2.out
      rw [if_neg c2] at hv
      simp only [Prod.mk.injEq] at hv
      obtain ⟨rfl, rfl⟩ := hv
      have hne : (E2 != 0) = true := by simpa using c2
      clear c2
      go_wp2_with fail
      go_ret2
      exact ⟨rfl, HG2.out⟩
  · have hv := HV.out
    rw [if_neg c1] at hv
    simp only [Prod.mk.injEq] at hv
    obtain ⟨rfl, rfl⟩ := hv
    have hne : (E1 != 0) = true := by simpa using c1
    clear c1
    go_wp2_with fail
    go_ret2
    exact ⟨rfl, HG1.out⟩
end Go.Proofs.Ytgkhhfojioepgaa
