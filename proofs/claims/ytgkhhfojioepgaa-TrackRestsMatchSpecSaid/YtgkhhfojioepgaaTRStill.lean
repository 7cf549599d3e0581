/- Still of the reference, for any activity. -/
import Derived.Test.YtgkhhfojioepgaaTRStR
import Derived.Test.YtgkhhfojioepgaaTRStep
import Derived.Deep.AppendLies
namespace Go.Proofs.Ytgkhhfojioepgaa
open Go.RowKit
set_option linter.unusedSimpArgs false
set_option linter.unusedVariables false

attribute [local go_sem] Oper.semAt_some
theorem mul_bdR {s d : Int} (h0 : 0 ≤ s) (h1 : s ≤ 100000) (d0 : -1000000 ≤ d) (d1 : d ≤ 1000000) : -100000000000 ≤ s * d ∧ s * d ≤ 100000000000 := by
  have a1 : s * d ≤ 100000 * 1000000 := by
    rcases Int.le_total 0 d with h | h
    · exact Int.mul_le_mul h1 d1 h (by omega)
    · have := Int.mul_nonpos_of_nonneg_of_nonpos h0 h; omega
  have a2 : -(s * d) ≤ 100000 * 1000000 := by
    rw [← Int.mul_neg]
    rcases Int.le_total 0 (-d) with h | h
    · exact Int.mul_le_mul h1 (by omega) h (by omega)
    · have := Int.mul_nonpos_of_nonneg_of_nonpos h0 h; omega
  omega
set_option maxRecDepth 100000 in
set_option maxHeartbeats 6400000 in
theorem rStill_any (a : Act) (slow least : Int) (w : World) (ha : ActAt w a) {L : List SpV} {E : Int} (hE : Hid (stillE a slow least = (L, E))) :
    Calls Try.prog 24 #[a.val, .int .i64 slow, .int .i64 least] w fun x w' => (∃ v, x = .returned (.tuple #[v, .int .i64 E]) ∧ w'.ownsRow w.heap.size 45 2 v L.length (L.flatMap spCs)) ∧ w.grownBy w' none := by
  obtain ⟨ce, hce⟩ : ∃ e, chkE a = e := ⟨_, rfl⟩
  have hv := hE.out
  unfold stillE at hv
  rw [hce] at hv
  have HCE := Lib.hid hce; have HA := Lib.hid ha
  obtain ⟨nm, sp, st, so, sc, ss, lo, lc, ls, to_, tc, ts⟩ := a
  have G1 : Hid (w.grownBy (w.alloc (.cells #[.string nm, .int .i64 sp, .int .i64 st, .slice so ss.length sc, .slice lo ls.length lc, .slice to_ ts.length tc] 26)) none) := World.grownBy_alloc _ _ _
  simp only [Act.val] at *
  clear hE ha
  by_cases c1 : ce = 0
  · rw [if_pos c1] at hv
    subst c1
    have hok := chk_ok hce
    have HS : Hid (SOk ss) := sok_of hok
    have hl : (ss.length : Int) ≤ 20000 := HS.out.len
    have HV := Lib.hid hv
    clear hce hok hv
    by_cases c0 : (0 ≤ slow ∧ slow ≤ 100000) ∧ (1 ≤ least ∧ least ≤ 1000000)
    · have hv := HV.out
      rw [if_pos c0.1, if_pos c0.2] at hv
      simp only [Prod.mk.injEq] at hv
      obtain ⟨rfl, rfl⟩ := hv
      obtain ⟨M, hM⟩ : ∃ M, stillM ss slow = M := ⟨_, rfl⟩
      rw [hM]
      have HMM := Lib.hid hM
      go_enter Try.func24, Try.ntmps24
      go_wp2_with fail
      refine (rcheck_any ⟨nm, sp, st, so, sc, ss, lo, lc, ls, to_, tc, ts⟩ _ (HA.out.grown G1.out) HCE).mono ?_; rintro e w2 ⟨rfl, hg2⟩
      have HG2 : Hid (w.grownBy w2 none) := grown_trans G1.out hg2
      have HBX2 : Hid (w2.heap[w.heap.size]? = some (.cells #[.string nm, .int .i64 sp, .int .i64 st, .slice so ss.length sc, .slice lo ls.length lc, .slice to_ ts.length tc] 26 (0, 0))) := mblock_at (World.alloc_heap_new w _) hg2 (by simp)
      clear hg2
      go_wp2_with fail
      refine (routsideR_no slow 0 100000 c0.1.1 c0.1.2 _).mono ?_; rintro e w3 ⟨rfl, rfl⟩
      go_wp2_with fail
      refine (routsideR_no least 1 1000000 c0.2.1 c0.2.2 _).mono ?_; rintro e w3 ⟨rfl, rfl⟩
      obtain ⟨j0, ji, jz0, jz1, jz2⟩ := info_parts info_mark
      have HJI := Lib.hid ji; have HJ0 := Lib.hid jz0; have HJ1 := Lib.hid jz1; have HJ2 := Lib.hid jz2
      clear hM HV ji jz0 jz1 jz2
      go_wp2_with fail
      go_loopw [9, 10] (fun mv iv wr => ∃ (k : Nat) (v : Value), k ≤ ss.length - 1 ∧ v = mv ∧ iv = .int .i64 ((k : Int) + 1) ∧ Hid (w.grownBy wr none) ∧ Hid (wr.heap[w.heap.size]? = some (.cells #[.string nm, .int .i64 sp, .int .i64 st, .slice so ss.length sc, .slice lo ls.length lc, .slice to_ ts.length tc] 26 (0, 0))) ∧ Hid (wr.ownsRow w.heap.size 4 1 v k (marksV M k)))
        (fun _ iv _ => ss.length - (intOf iv).toNat)
      case atStart => exact ⟨0, _, Nat.zero_le _, rfl, rfl, HG2.out, HBX2.out, World.ownsRow_nil _ _ _ _⟩
      case round =>
        obtain ⟨k, v, hk, rfl, rfl, HG, hbx, ho⟩ := hrel
        have b3 : Hid (wr.cell? ⟨w.heap.size, 3, none⟩ = some (.slice so ss.length sc)) := mblock_cell hbx.out 3 _ rfl
        have ji := HJI.out; have jz0 := HJ0.out; have jz1 := HJ1.out; have jz2 := HJ2.out
        by_cases hlt : k + 1 < ss.length
        · obtain ⟨gb, ob, rfl, hc⟩ := smps_at1 HA.out.hs (by show 0 < ss.length; omega)
          have hkL : k < ss.length := by omega
          obtain ⟨ti, hti⟩ : ∃ t, tmS ss k = t := ⟨_, rfl⟩
          obtain ⟨tj, htj⟩ : ∃ t, tmS ss (k + 1) = t := ⟨_, rfl⟩
          have bi := HS.out.inn k hkL; have bj := HS.out.inn (k + 1) hlt
          have bti : 0 ≤ ti ∧ ti ≤ 1000000 := by rw [← hti]; exact ⟨bi.1, bi.2.1⟩
          have btj : 0 ≤ tj ∧ tj ≤ 1000000 := by rw [← htj]; exact ⟨bj.1, bj.2.1⟩
          have hgbl : gb < w.heap.size := World.block_lt_of_cell? w _ (hc k hkL).1
          have hcell := fun (i : Nat) (h : i < ss.length) => hc i h
          have p0s : Hid (wr.cell? ⟨gb, ob + k * 7, none⟩ = some (.int .i64 (smpD ss k).t)) := by
            have q := grown_cell HG.out (hc k hkL).1
            rw [← smpD_at hkL] at q
            exact q
          have p1s : Hid (wr.cell? ⟨gb, ob + k * 7 + 1, none⟩ = some (.int .i64 (smpD ss k).x)) := by
            have q := grown_cell HG.out (hc k hkL).2.1
            rw [← smpD_at hkL] at q
            exact q
          have p2s : Hid (wr.cell? ⟨gb, ob + k * 7 + 2, none⟩ = some (.int .i64 (smpD ss k).y)) := by
            have q := grown_cell HG.out (hc k hkL).2.2.1
            rw [← smpD_at hkL] at q
            exact q
          have p3s : Hid (wr.cell? ⟨gb, ob + k * 7 + 3, none⟩ = some (.int .i64 (smpD ss k).z)) := by
            have q := grown_cell HG.out (hc k hkL).2.2.2.1
            rw [← smpD_at hkL] at q
            exact q
          have p4s : Hid (wr.cell? ⟨gb, ob + k * 7 + 4, none⟩ = some (.int .i64 (smpD ss k).p)) := by
            have q := grown_cell HG.out (hc k hkL).2.2.2.2.1
            rw [← smpD_at hkL] at q
            exact q
          have p5s : Hid (wr.cell? ⟨gb, ob + k * 7 + 5, none⟩ = some (.int .i64 (smpD ss k).q)) := by
            have q := grown_cell HG.out (hc k hkL).2.2.2.2.2.1
            rw [← smpD_at hkL] at q
            exact q
          have p6s : Hid (wr.cell? ⟨gb, ob + k * 7 + 6, none⟩ = some (.int .i64 (smpD ss k).s)) := by
            have q := grown_cell HG.out (hc k hkL).2.2.2.2.2.2
            rw [← smpD_at hkL] at q
            exact q
          have q0s : Hid (wr.cell? ⟨gb, ob + (k + 1) * 7, none⟩ = some (.int .i64 (smpD ss (k + 1)).t)) := by
            have q := grown_cell HG.out (hc (k + 1) hlt).1
            rw [← smpD_at hlt] at q
            exact q
          have q1s : Hid (wr.cell? ⟨gb, ob + (k + 1) * 7 + 1, none⟩ = some (.int .i64 (smpD ss (k + 1)).x)) := by
            have q := grown_cell HG.out (hc (k + 1) hlt).2.1
            rw [← smpD_at hlt] at q
            exact q
          have q2s : Hid (wr.cell? ⟨gb, ob + (k + 1) * 7 + 2, none⟩ = some (.int .i64 (smpD ss (k + 1)).y)) := by
            have q := grown_cell HG.out (hc (k + 1) hlt).2.2.1
            rw [← smpD_at hlt] at q
            exact q
          have q3s : Hid (wr.cell? ⟨gb, ob + (k + 1) * 7 + 3, none⟩ = some (.int .i64 (smpD ss (k + 1)).z)) := by
            have q := grown_cell HG.out (hc (k + 1) hlt).2.2.2.1
            rw [← smpD_at hlt] at q
            exact q
          have q4s : Hid (wr.cell? ⟨gb, ob + (k + 1) * 7 + 4, none⟩ = some (.int .i64 (smpD ss (k + 1)).p)) := by
            have q := grown_cell HG.out (hc (k + 1) hlt).2.2.2.2.1
            rw [← smpD_at hlt] at q
            exact q
          have q5s : Hid (wr.cell? ⟨gb, ob + (k + 1) * 7 + 5, none⟩ = some (.int .i64 (smpD ss (k + 1)).q)) := by
            have q := grown_cell HG.out (hc (k + 1) hlt).2.2.2.2.2.1
            rw [← smpD_at hlt] at q
            exact q
          have q6s : Hid (wr.cell? ⟨gb, ob + (k + 1) * 7 + 6, none⟩ = some (.int .i64 (smpD ss (k + 1)).s)) := by
            have q := grown_cell HG.out (hc (k + 1) hlt).2.2.2.2.2.2
            rw [← smpD_at hlt] at q
            exact q
          obtain ⟨wy, hwy⟩ : ∃ n, stepW (smpD ss k) (smpD ss (k + 1)) = n := ⟨_, rfl⟩
          have HWY := Lib.hid hwy
          have hwb := stepW_bd bi.2.2.1 bj.2.2.1
          have HPP : Hid (inPlane (smpD ss k)) := bi.2.2.1
          have HQP : Hid (inPlane (smpD ss (k + 1))) := bj.2.2.1
          have HMK : Hid (M k = decide (wy ≤ slow * (tj - ti))) := by
            show _ = _
            rw [← HMM.out, ← hti, ← htj, ← hwy]; rfl
          have hpr : -100000000000 ≤ slow * (tj - ti) ∧ slow * (tj - ti) ≤ 100000000000 := mul_bdR c0.1.1 c0.1.2 (by omega) (by omega)
          have w1 : IntKind.i64.wrap (tj - ti) = tj - ti := IntWalk.i64_in _ (by omega)
          have rmul : IntKind.i64.wrap (slow * (tj - ti)) = slow * (tj - ti) := IntWalk.i64_in _ (by omega)
          have hk20 : k ≤ 20000 := by omega
          have hwl : w.heap.size < wr.heap.size := (Array.getElem?_eq_some_iff.1 hbx.out).1
          have hgw : gb < wr.heap.size := by omega
          have HTI : Hid ((smpD ss k).t = ti) := hti
          have HTJ : Hid ((smpD ss (k + 1)).t = tj) := htj
          have bq := b3.out
          clear hc hcell bi bj hti htj hgbl hpr hwb
          go_upto_region 10 with (fail)
          clear bq
          show (rgOf 10 Try.f24).wp _ _ _ _
          refine rst_r10 _ _ _ _ _ _ _ _ _ _ _ _ _ _ _ _ _ _ _ _ _ _ _ _ _ _ _ _ _ _ _ _ _ _ _ _ _ _ _ _ _ _ _ _ _ _ _ _ _ _ _ _ _ _ _ _ _ _ wr w.heap.size gb ob ss.length sc k (smpD ss k) (smpD ss (k + 1)) hlt hl hwl hgw b3 p0s p1s p2s p3s p4s p5s p6s q0s q1s q2s q3s q4s q5s q6s (fun _ _ _ _ _ _ _ _ _ _ _ PB QB WV hgV hPV hQV => ?_)
          have HG' : Hid (w.grownBy WV none) := grown_trans HG.out hgV
          have hbx' := Lib.hid (mblock_at hbx.out hgV (by simp))
          have ho' := Lib.hid (keptR ho.out hgV)
          clear p0s p1s p2s p3s p4s p5s p6s q0s q1s q2s q3s q4s q5s q6s HG hbx ho b3 hwl hgw
          have HG := HG'; have hbx := hbx'; have ho := ho'
          clear HG' hbx' ho'
          have npb : Hid (some PB ≠ v.ownBlock) := fun e => own_far ho.out hPV (by decide) e.symm
          have nqb : Hid (some QB ≠ v.ownBlock) := fun e => own_far ho.out hQV (by decide) e.symm
          have pc0 : Hid (WV.cell? ⟨PB, 0, none⟩ = some (.int .i64 (smpD ss k).t)) := mblock_cell hPV 0 _ rfl
          have pc1 : Hid (WV.cell? ⟨PB, 1, none⟩ = some (.int .i64 (smpD ss k).x)) := mblock_cell hPV 1 _ rfl
          have pc2 : Hid (WV.cell? ⟨PB, 2, none⟩ = some (.int .i64 (smpD ss k).y)) := mblock_cell hPV 2 _ rfl
          have pc3 : Hid (WV.cell? ⟨PB, 3, none⟩ = some (.int .i64 (smpD ss k).z)) := mblock_cell hPV 3 _ rfl
          have pc4 : Hid (WV.cell? ⟨PB, 4, none⟩ = some (.int .i64 (smpD ss k).p)) := mblock_cell hPV 4 _ rfl
          have pc5 : Hid (WV.cell? ⟨PB, 5, none⟩ = some (.int .i64 (smpD ss k).q)) := mblock_cell hPV 5 _ rfl
          have pc6 : Hid (WV.cell? ⟨PB, 6, none⟩ = some (.int .i64 (smpD ss k).s)) := mblock_cell hPV 6 _ rfl
          have qc0 : Hid (WV.cell? ⟨QB, 0, none⟩ = some (.int .i64 (smpD ss (k + 1)).t)) := mblock_cell hQV 0 _ rfl
          have qc1 : Hid (WV.cell? ⟨QB, 1, none⟩ = some (.int .i64 (smpD ss (k + 1)).x)) := mblock_cell hQV 1 _ rfl
          have qc2 : Hid (WV.cell? ⟨QB, 2, none⟩ = some (.int .i64 (smpD ss (k + 1)).y)) := mblock_cell hQV 2 _ rfl
          have qc3 : Hid (WV.cell? ⟨QB, 3, none⟩ = some (.int .i64 (smpD ss (k + 1)).z)) := mblock_cell hQV 3 _ rfl
          have qc4 : Hid (WV.cell? ⟨QB, 4, none⟩ = some (.int .i64 (smpD ss (k + 1)).p)) := mblock_cell hQV 4 _ rfl
          have qc5 : Hid (WV.cell? ⟨QB, 5, none⟩ = some (.int .i64 (smpD ss (k + 1)).q)) := mblock_cell hQV 5 _ rfl
          have qc6 : Hid (WV.cell? ⟨QB, 6, none⟩ = some (.int .i64 (smpD ss (k + 1)).s)) := mblock_cell hQV 6 _ rfl
          have pt : Hid (WV.cell? ⟨PB, 0, none⟩ = some (.int .i64 ti)) := by show _ = _; rw [← HTI.out]; exact pc0.out
          have qt : Hid (WV.cell? ⟨QB, 0, none⟩ = some (.int .i64 tj)) := by show _ = _; rw [← HTJ.out]; exact qc0.out
          go_wp2_with fail
          refine wp_region_noPanic ?_
          refine wp_region_held_drew (S := fun V => World.grownBy WV V v.ownBlock) (by kernel_rfl) (⟨rfl, rfl, rfl, Nat.le_refl _, fun _ _ _ => rfl⟩) (fun hHeld => ?_)
          refine wpAnyH_take (i := 0) (oi := ?oia0) (v := v) ?hia0 (by kernel_rfl) (by kernel_rfl) (by kernel_rfl) ?hqa0 ?hya0 (by assumption) ?resta0
          case hia0 => simp only [List.getElem?_toArray, List.getElem?_cons_succ, List.getElem?_cons_zero, Option.some.injEq]; rfl
          case hqa0 => exact fun _ _ _ h => h
          case hya0 =>
            refine Or.inl ⟨by kernel_rfl, fun V hV => ?_⟩
            clear hV
            clear hHeld
            go_simp
          try simp only [Go.Act.put, List.setIfInBounds_toArray, List.set_cons_zero, List.set_cons_succ]
          refine wpAnyH_take (i := 1) (oi := ?oia1) (v := .agg #[.int .i64 (smpD ss k).t, .int .i64 (smpD ss k).x, .int .i64 (smpD ss k).y, .int .i64 (smpD ss k).z, .int .i64 (smpD ss k).p, .int .i64 (smpD ss k).q, .int .i64 (smpD ss k).s]) ?hia1 (by kernel_rfl) (by kernel_rfl) (by kernel_rfl) ?hqa1 ?hya1 (by assumption) ?resta1
          case hia1 => simp only [List.getElem?_toArray, List.getElem?_cons_succ, List.getElem?_cons_zero, Option.some.injEq]; rfl
          case hqa1 => exact fun _ _ _ h => h
          case hya1 =>
            refine Or.inl ⟨by kernel_rfl, fun V hV => ?_⟩
            have r0 := hV.cell pc0.out npb.out; have r1 := hV.cell pc1.out npb.out; have r2 := hV.cell pc2.out npb.out; have r3 := hV.cell pc3.out npb.out; have r4 := hV.cell pc4.out npb.out; have r5 := hV.cell pc5.out npb.out; have r6 := hV.cell pc6.out npb.out; clear hV
            clear hHeld
            go_simp
          try simp only [Go.Act.put, List.setIfInBounds_toArray, List.set_cons_zero, List.set_cons_succ]
          refine wpAnyH_take (i := 2) (oi := ?oia2) (v := .agg #[.int .i64 (smpD ss (k + 1)).t, .int .i64 (smpD ss (k + 1)).x, .int .i64 (smpD ss (k + 1)).y, .int .i64 (smpD ss (k + 1)).z, .int .i64 (smpD ss (k + 1)).p, .int .i64 (smpD ss (k + 1)).q, .int .i64 (smpD ss (k + 1)).s]) ?hia2 (by kernel_rfl) (by kernel_rfl) (by kernel_rfl) ?hqa2 ?hya2 (by assumption) ?resta2
          case hia2 => simp only [List.getElem?_toArray, List.getElem?_cons_succ, List.getElem?_cons_zero, Option.some.injEq]; rfl
          case hqa2 => exact fun _ _ _ h => h
          case hya2 =>
            refine Or.inl ⟨by kernel_rfl, fun V hV => ?_⟩
            have r0 := hV.cell qc0.out nqb.out; have r1 := hV.cell qc1.out nqb.out; have r2 := hV.cell qc2.out nqb.out; have r3 := hV.cell qc3.out nqb.out; have r4 := hV.cell qc4.out nqb.out; have r5 := hV.cell qc5.out nqb.out; have r6 := hV.cell qc6.out nqb.out; clear hV
            clear hHeld
            go_simp
          try simp only [Go.Act.put, List.setIfInBounds_toArray, List.set_cons_zero, List.set_cons_succ]
          refine wpAnyH_take (i := 4) (oi := ?oia4) (v := .int .i64 slow) ?hia4 (by kernel_rfl) (by kernel_rfl) (by kernel_rfl) ?hqa4 ?hya4 (by assumption) ?resta4
          case hia4 => simp only [List.getElem?_toArray, List.getElem?_cons_succ, List.getElem?_cons_zero, Option.some.injEq]; rfl
          case hqa4 => exact fun _ _ _ h => h
          case hya4 =>
            refine Or.inl ⟨by kernel_rfl, fun V hV => ?_⟩
            clear hV
            clear hHeld
            go_simp
          try simp only [Go.Act.put, List.setIfInBounds_toArray, List.set_cons_zero, List.set_cons_succ]
          refine wpAnyH_take (i := 5) (oi := ?oia5) (v := .pointer (some ⟨QB, 0, none⟩)) ?hia5 (by kernel_rfl) (by kernel_rfl) (by kernel_rfl) ?hqa5 ?hya5 (by assumption) ?resta5
          case hia5 => simp only [List.getElem?_toArray, List.getElem?_cons_succ, List.getElem?_cons_zero, Option.some.injEq]; rfl
          case hqa5 => exact fun _ _ _ h => h
          case hya5 =>
            refine Or.inl ⟨by kernel_rfl, fun V hV => ?_⟩
            clear hV
            clear hHeld
            go_simp
          try simp only [Go.Act.put, List.setIfInBounds_toArray, List.set_cons_zero, List.set_cons_succ]
          refine wpAnyH_take (i := 6) (oi := ?oia6) (v := .int .i64 tj) ?hia6 (by kernel_rfl) (by kernel_rfl) (by kernel_rfl) ?hqa6 ?hya6 (by assumption) ?resta6
          case hia6 => simp only [List.getElem?_toArray, List.getElem?_cons_succ, List.getElem?_cons_zero, Option.some.injEq]; rfl
          case hqa6 => exact fun _ _ _ h => h
          case hya6 =>
            refine Or.inl ⟨by kernel_rfl, fun V hV => ?_⟩
            have r0 := hV.cell qt.out nqb.out; clear hV
            clear hHeld
            go_simp
          try simp only [Go.Act.put, List.setIfInBounds_toArray, List.set_cons_zero, List.set_cons_succ]
          refine wpAnyH_take (i := 7) (oi := ?oia7) (v := .pointer (some ⟨PB, 0, none⟩)) ?hia7 (by kernel_rfl) (by kernel_rfl) (by kernel_rfl) ?hqa7 ?hya7 (by assumption) ?resta7
          case hia7 => simp only [List.getElem?_toArray, List.getElem?_cons_succ, List.getElem?_cons_zero, Option.some.injEq]; rfl
          case hqa7 => exact fun _ _ _ h => h
          case hya7 =>
            refine Or.inl ⟨by kernel_rfl, fun V hV => ?_⟩
            clear hV
            clear hHeld
            go_simp
          try simp only [Go.Act.put, List.setIfInBounds_toArray, List.set_cons_zero, List.set_cons_succ]
          refine wpAnyH_take (i := 8) (oi := ?oia8) (v := .int .i64 ti) ?hia8 (by kernel_rfl) (by kernel_rfl) (by kernel_rfl) ?hqa8 ?hya8 (by assumption) ?resta8
          case hia8 => simp only [List.getElem?_toArray, List.getElem?_cons_succ, List.getElem?_cons_zero, Option.some.injEq]; rfl
          case hqa8 => exact fun _ _ _ h => h
          case hya8 =>
            refine Or.inl ⟨by kernel_rfl, fun V hV => ?_⟩
            have r0 := hV.cell pt.out npb.out; clear hV
            clear hHeld
            go_simp
          try simp only [Go.Act.put, List.setIfInBounds_toArray, List.set_cons_zero, List.set_cons_succ]
          refine wpAnyH_take (i := 9) (oi := ?oia9) (v := .int .i64 (tj - ti)) ?hia9 (by kernel_rfl) (by kernel_rfl) (by kernel_rfl) ?hqa9 ?hya9 (by assumption) ?resta9
          case hia9 => simp only [List.getElem?_toArray, List.getElem?_cons_succ, List.getElem?_cons_zero, Option.some.injEq]; rfl
          case hqa9 => exact fun _ _ _ h => h
          case hya9 =>
            refine Or.inl ⟨by kernel_rfl, fun V hV => ?_⟩
            clear hV
            clear hHeld
            go_simp
          try simp only [Go.Act.put, List.setIfInBounds_toArray, List.set_cons_zero, List.set_cons_succ]
          refine wpAnyH_take (i := 10) (oi := ?oia10) (v := .int .i64 (slow * (tj - ti))) ?hia10 (by kernel_rfl) (by kernel_rfl) (by kernel_rfl) ?hqa10 ?hya10 (by assumption) ?resta10
          case hia10 => simp only [List.getElem?_toArray, List.getElem?_cons_succ, List.getElem?_cons_zero, Option.some.injEq]; rfl
          case hqa10 => exact fun _ _ _ h => h
          case hya10 =>
            refine Or.inl ⟨by kernel_rfl, fun V hV => ?_⟩
            clear hV
            clear hHeld
            go_simp
          try simp only [Go.Act.put, List.setIfInBounds_toArray, List.set_cons_zero, List.set_cons_succ]
          refine wpAnyH_ready (rs := [3]) (by kernel_rfl) (by simp) ?_
          refine AllReadyH.cons rfl (fun K hK => ?_) AllReadyH.nil
          go_simp
          refine (length_is (smpD ss k) (smpD ss (k + 1)) HPP.out HQP.out WV.drew HWY).mono ?_
          rintro e w7 ⟨rfl, hg7⟩
          refine hK.out _ _ (grown_low2 (grown_trans (show WV.grownBy WV.drew none from ⟨rfl, rfl, rfl, Nat.le_refl _, fun _ _ _ => rfl⟩) hg7)) (fun hHeld => ?_)
          have HG7 : Hid (WV.grownBy w7 none) := grown_trans (show WV.grownBy WV.drew none from ⟨rfl, rfl, rfl, Nat.le_refl _, fun _ _ _ => rfl⟩) hg7
          clear hK K hg7
          try simp only [Go.Act.put, List.setIfInBounds_toArray, List.set_cons_zero, List.set_cons_succ]
          refine wpAnyH_take (i := 11) (oi := ?oia11) (v := .bool (decide (wy ≤ slow * (tj - ti)))) ?hia11 (by kernel_rfl) (by kernel_rfl) (by kernel_rfl) ?hqa11 ?hya11 (by assumption) ?resta11
          case hia11 => simp only [List.getElem?_toArray, List.getElem?_cons_succ, List.getElem?_cons_zero, Option.some.injEq]; rfl
          case hqa11 => exact fun _ _ _ h => h
          case hya11 =>
            refine Or.inl ⟨by kernel_rfl, fun V hV => ?_⟩
            clear hV
            clear hHeld
            go_simp
          try simp only [Go.Act.put, List.setIfInBounds_toArray, List.set_cons_zero, List.set_cons_succ]
          refine wpAnyH_ready (rs := [12]) (by kernel_rfl) (by simp) ?_
          refine AllReadyH.cons rfl (fun K hK => ?_) AllReadyH.nil
          go_simp
          have hgX : WV.grownBy (w7.alloc (.cells #[.bool (decide (wy ≤ slow * (tj - ti)))] 4)) none := grown_trans HG7.out (World.grownBy_alloc _ _ _)
          refine hK.out _ _ (grown_low2 hgX) (fun hHeld1 => ?_)
          have HO1 := Lib.hid (keptR ho.out hgX)
          have HBX := Lib.hid (World.alloc_heap_new w7 (.cells #[.bool (decide (wy ≤ slow * (tj - ti)))] 4))
          have hsz7 := HG7.out.size
          try simp only [Go.Act.put, List.setIfInBounds_toArray, List.set_cons_zero, List.set_cons_succ]
          refine wpAnyH_ready (rs := [13]) (by kernel_rfl) (by simp) ?_
          refine AllReadyH.cons rfl (fun K hK => ?_) AllReadyH.nil
          refine step_append_lies _ (by rfl) _ _ _ (by rfl) w.heap.size 4 j0 (.bool false) 1 1 Try.underlying89 ji jz0 jz1 jz2 rfl (by omega) v k (marksV M k) (by rfl) HO1.out
            ⟨w7.heap.size, 0, none⟩ 1 1 [.bool (decide (wy ≤ slow * (tj - ti)))] (by rfl) (by rfl) (World.news_of_block HBX.out) (by intro u hu; simp at hu; subst hu; rfl)
            (by omega) (by unfold maxLen; omega) (by omega) (by have := HG.out.size; simp; omega) _ rfl ?_
          intro gg cap2 w4 hown1 hgrow hat hlt4
          refine hK.out _ _ (World.grownBy.trans hHeld1 hgrow) (fun hHeld => ?_)
          have HO4 : Hid (w4.ownsRow w.heap.size 4 1 (.slice (some ⟨gg, 0, none⟩) (k + 1) cap2) (k + 1) (marksV M (k + 1))) := by
            show World.ownsRow _ _ _ _ _ _ _
            rw [marksV_succ, HMK.out]; exact hown1
          have HG4 : Hid (w.grownBy w4 none) := grown_anyR HG.out hHeld (fun q e => (ho.out.lt q e).1)
          have HB4 := Lib.hid (mblock_at hbx.out hHeld (fun e => own_far ho.out hbx.out (by decide) e.symm))
          clear hK hHeld1 hown1 hgrow hat hlt4 hgX
          try simp only [Go.Act.put, List.setIfInBounds_toArray, List.set_cons_zero, List.set_cons_succ]
          refine wpAnyH_take (i := 14) (oi := ?oia14) (v := .slice (some ⟨gg, 0, none⟩) (k + 1) cap2) ?hia14 (by kernel_rfl) (by kernel_rfl) (by kernel_rfl) ?hqa14 ?hya14 (by assumption) ?resta14
          case hia14 => simp only [List.getElem?_toArray, List.getElem?_cons_succ, List.getElem?_cons_zero, Option.some.injEq]; rfl
          case hqa14 => exact fun _ _ _ h => h
          case hya14 =>
            refine Or.inl ⟨by kernel_rfl, fun V hV => ?_⟩
            clear hV
            clear hHeld
            go_simp
          try simp only [Go.Act.put, List.setIfInBounds_toArray, List.set_cons_zero, List.set_cons_succ]
          refine wpAnyH_done (by kernel_rfl) ?_ _
          refine NoPanic.normal ?_
          clear hHeld HO1 HBX hsz7
          clear hbx ho HG npb nqb pt qt pc0 pc1 pc2 pc3 pc4 pc5 pc6 qc0 qc1 qc2 qc3 qc4 qc5 qc6 hPV hQV hgV HG7 HMK HWY HPP HQP HTI HTJ rmul w1
          go_wp2_with fail
          go_roundw
          case rel => exact ⟨k + 1, _, by omega, rfl, by go_num, HG4.out, HB4.out, HO4.out⟩
          case measure => simp [intOf]; omega
        · have hke : k = ss.length - 1 := by omega
          have q5 : ¬ (k : Int) + 1 < (ss.length : Int) := by omega
          obtain ⟨mo, mc, rfl, hbl⟩ := marks_bl ho.out
          have HBL := Lib.hid hbl
          have HKN : Hid (k = ss.length - 1) := hke
          clear hbl hke hlt
          have bb0 : wr.cell? ⟨w.heap.size, 0, none⟩ = some (.string nm) := mblock_cell hbx.out 0 _ rfl
          have bb1 : wr.cell? ⟨w.heap.size, 1, none⟩ = some (.int .i64 sp) := mblock_cell hbx.out 1 _ rfl
          have bb2 : wr.cell? ⟨w.heap.size, 2, none⟩ = some (.int .i64 st) := mblock_cell hbx.out 2 _ rfl
          have bb3 : wr.cell? ⟨w.heap.size, 3, none⟩ = some (.slice so ss.length sc) := mblock_cell hbx.out 3 _ rfl
          have bb4 : wr.cell? ⟨w.heap.size, 4, none⟩ = some (.slice lo ls.length lc) := mblock_cell hbx.out 4 _ rfl
          have bb5 : wr.cell? ⟨w.heap.size, 5, none⟩ = some (.slice to_ ts.length tc) := mblock_cell hbx.out 5 _ rfl
          go_wp2_with fail
          refine (rrows_is nm sp st so sc ss lo lc ls to_ tc ts mo mc k M least c0.2.1 c0.2.2 wr (Lib.hid (HA.out.hs.grown HG.out)) HS HKN HBL).mono ?_
          rintro e w5 ⟨⟨v5, rfl, ho5⟩, hg5⟩
          have HO5 : Hid (w5.ownsRow w.heap.size 45 2 v5 (restL (tmS ss) M least (ss.length - 1)).length ((restL (tmS ss) M least (ss.length - 1)).flatMap spCs)) := by
            have q := own_baseR ho5 HG.out.size
            rw [HKN.out] at q
            exact q
          have HG5 : Hid (w.grownBy w5 none) := grown_trans HG.out hg5
          clear ho5 hg5 bb0 bb1 bb2 bb3 bb4 bb5
          go_wp2_with fail
          go_ret2
          exact ⟨⟨_, rfl, HO5.out⟩, HG5.out⟩
    · by_cases d0 : 0 ≤ slow ∧ slow ≤ 100000
      · have d1 : ¬ (1 ≤ least ∧ least ≤ 1000000) := fun h => c0 ⟨d0, h⟩
        have hv := HV.out
        rw [if_pos d0, if_neg d1] at hv
        simp only [Prod.mk.injEq] at hv
        obtain ⟨rfl, rfl⟩ := hv
        have co : least < 1 ∨ 1000000 < least := by omega
        go_enter Try.func24, Try.ntmps24
        go_wp2_with fail
        refine (rcheck_any ⟨nm, sp, st, so, sc, ss, lo, lc, ls, to_, tc, ts⟩ _ (HA.out.grown G1.out) HCE).mono ?_; rintro e w2 ⟨rfl, hg2⟩
        have HG2 : Hid (w.grownBy w2 none) := grown_trans G1.out hg2
        have HBX2 : Hid (w2.heap[w.heap.size]? = some (.cells #[.string nm, .int .i64 sp, .int .i64 st, .slice so ss.length sc, .slice lo ls.length lc, .slice to_ ts.length tc] 26 (0, 0))) := mblock_at (World.alloc_heap_new w _) hg2 (by simp)
        clear hg2
        go_wp2_with fail
        refine (routsideR_no slow 0 100000 d0.1 d0.2 _).mono ?_; rintro e w3 ⟨rfl, rfl⟩
        go_wp2_with fail
        refine (routsideR_yes least 1 1000000 co _).mono ?_; rintro e w3 ⟨rfl, rfl⟩
        go_wp2_with fail
        go_ret2
        exact ⟨⟨_, rfl, World.ownsRow_nil _ _ _ _⟩, HG2.out⟩
      · have hv := HV.out
        rw [if_neg d0] at hv
        simp only [Prod.mk.injEq] at hv
        obtain ⟨rfl, rfl⟩ := hv
        have co : slow < 0 ∨ 100000 < slow := by omega
        go_enter Try.func24, Try.ntmps24
        go_wp2_with fail
        refine (rcheck_any ⟨nm, sp, st, so, sc, ss, lo, lc, ls, to_, tc, ts⟩ _ (HA.out.grown G1.out) HCE).mono ?_; rintro e w2 ⟨rfl, hg2⟩
        have HG2 : Hid (w.grownBy w2 none) := grown_trans G1.out hg2
        have HBX2 : Hid (w2.heap[w.heap.size]? = some (.cells #[.string nm, .int .i64 sp, .int .i64 st, .slice so ss.length sc, .slice lo ls.length lc, .slice to_ ts.length tc] 26 (0, 0))) := mblock_at (World.alloc_heap_new w _) hg2 (by simp)
        clear hg2
        go_wp2_with fail
        refine (routsideR_yes slow 0 100000 co _).mono ?_; rintro e w3 ⟨rfl, rfl⟩
        go_wp2_with fail
        go_ret2
        exact ⟨⟨_, rfl, World.ownsRow_nil _ _ _ _⟩, HG2.out⟩
  · rw [if_neg c1] at hv
    simp only [Prod.mk.injEq] at hv
    obtain ⟨rfl, rfl⟩ := hv
    have hne : (ce != 0) = true := by simpa using c1
    clear hce c1
    go_enter Try.func24, Try.ntmps24
    go_wp2_with fail
    refine (rcheck_any ⟨nm, sp, st, so, sc, ss, lo, lc, ls, to_, tc, ts⟩ _ (HA.out.grown G1.out) HCE).mono ?_; rintro e w2 ⟨rfl, hg2⟩
    have HG2 : Hid (w.grownBy w2 none) := grown_trans G1.out hg2
    have HBX2 : Hid (w2.heap[w.heap.size]? = some (.cells #[.string nm, .int .i64 sp, .int .i64 st, .slice so ss.length sc, .slice lo ls.length lc, .slice to_ ts.length tc] 26 (0, 0))) := mblock_at (World.alloc_heap_new w _) hg2 (by simp)
    clear hg2
    go_wp2_with fail
    go_ret2
    exact ⟨⟨_, rfl, World.ownsRow_nil _ _ _ _⟩, HG2.out⟩
end Go.Proofs.Ytgkhhfojioepgaa
