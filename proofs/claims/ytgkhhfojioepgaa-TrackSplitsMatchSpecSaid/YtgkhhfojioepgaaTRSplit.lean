/- The contract of the reference's Splits, for any activity. -/
import Derived.Test.YtgkhhfojioepgaaTSplitO
import Derived.Test.YtgkhhfojioepgaaQRef
import Derived.Test.YtgkhhfojioepgaaTRWaysM
import Derived.Test.YtgkhhfojioepgaaTKeepL
namespace Go.Proofs.Ytgkhhfojioepgaa
open Go.RowKit
set_option linter.unusedSimpArgs false
set_option linter.unusedVariables false

set_option maxRecDepth 100000 in
set_option maxHeartbeats 4000000 in
theorem rSplits_ok (nm : ByteArray) (sp st : Int) (so : Option Addr) (sc : Nat) (ss : List Smp) (lo : Option Addr) (lc : Nat) (ls : List LapV) (to_ : Option Addr) (tc : Nat) (ts : List ByteArray) (way : Int) (w0 : 1 ≤ way) (w1 : way ≤ 1000000000) (w : World)
    (HA : Hid (ActAt w ⟨nm, sp, st, so, sc, ss, lo, lc, ls, to_, tc, ts⟩)) (HCE : Hid (chkE ⟨nm, sp, st, so, sc, ss, lo, lc, ls, to_, tc, ts⟩ = 0)) (HS : Hid (SOk ss)) (HP : Hid (∀ x ∈ ss, inPlane x)) (hn4 : cntN ss way (ss.length - 1) ≤ 10000) :
    Calls Try.prog 50 #[.agg #[.string nm, .int .i64 sp, .int .i64 st, .slice so ss.length sc, .slice lo ls.length lc, .slice to_ ts.length tc], .int .i64 way] w fun x w' => (∃ v, x = .returned (.tuple #[v, .int .i64 0]) ∧ w'.ownsRow w.heap.size 67 2 v (cntN ss way (ss.length - 1)) (splVs ss way (cntN ss way (ss.length - 1)))) ∧ w.grownBy w' none := by
  have hl : (ss.length : Int) ≤ 20000 := HS.out.len
  obtain ⟨i0, hi, hz0, hz1, hz2⟩ := info_parts info_split
  have HI0 := Lib.hid hi; have HZ0 := Lib.hid hz0; have HZ1 := Lib.hid hz1; have HZ2 := Lib.hid hz2
  clear hi hz0 hz1 hz2
  have HW : Hid (waysE ⟨nm, sp, st, so, sc, ss, lo, lc, ls, to_, tc, ts⟩ = (ss.length, 0)) := by show _ = _; unfold waysE; rw [if_pos HCE.out]
  have GB := Lib.hid (World.grownBy_alloc w (.cells #[.string nm, .int .i64 sp, .int .i64 st, .slice so ss.length sc, .slice lo ls.length lc, .slice to_ ts.length tc] 26) none)
  go_enter Try.func50, Try.ntmps50
  go_wp2_with fail
  refine (rways_any ⟨nm, sp, st, so, sc, ss, lo, lc, ls, to_, tc, ts⟩ _ (HA.out.grown GB.out) HW).mono ?_; rintro x w2 ⟨⟨ao, cap, rfl, hI⟩, hg1⟩
  have G2 := Lib.hid (grown_trans GB.out hg1)
  have b3 : w2.cell? ⟨w.heap.size, 3, none⟩ = some (.slice so ss.length sc) := grown_cell hg1 (by go_simp)
  have HB3 := Lib.hid b3
  have HII := Lib.hid hI
  have HLT : Hid (w.heap.size < w2.heap.size) := by have := hg1.size; show _ < _; simp at this; omega
  clear b3 hI hg1
  go_wp2_with fail
  refine (rout_no _ _ _ w0 w1 _).mono ?_; rintro e w3 ⟨rfl, rfl⟩
  by_cases h0 : ss.length = 0
  · have hz : ((ss.length : Int) == 0) = true := by simp [h0]
    have hc0 : cntN ss way (ss.length - 1) = 0 := by rw [h0]; exact cnt_zero ss way
    have HC0 := Lib.hid hc0
    clear hc0
    go_wp2_with fail
    go_ret2
    exact ⟨⟨_, rfl, by rw [HC0.out]; exact World.ownsRow_nil _ _ _ _⟩, G2.out⟩
  · have hz : ((ss.length : Int) == 0) = false := beq_eq_false_iff_ne.2 (by omega)
    obtain ⟨i, hi⟩ : ∃ i, ss.length - 1 = i := ⟨_, rfl⟩
    have hin : i < ss.length := by omega
    obtain ⟨g, rfl, c0⟩ := HII.out i hin
    obtain ⟨L, hL⟩ : ∃ L, wayN ss i = L := ⟨_, rfl⟩
    have hLb := wayN_bd HP.out i
    rw [hL] at c0 hLb
    have ri : IntKind.i64.wrap ((ss.length : Int) - 1) = (i : Int) := by rw [show (ss.length : Int) - 1 = (i : Int) by omega]; exact IntWalk.i64_in _ (by omega)
    have hin2 : (i : Int) < (ss.length : Int) := by omega
    have hi00 : (0 : Int) ≤ (i : Int) := by omega
    have hq0 : 0 ≤ L / way := Int.ediv_nonneg hLb.1 (by omega)
    have hnL : (cntN ss way i : Int) = L / way := by
      unfold cntN; rw [hL]; omega
    rw [hi] at hn4
    have hqb : L / way ≤ 10000 := by omega
    have hq : L.tdiv way = L / way := Int.tdiv_eq_ediv_of_nonneg hLb.1
    have rq : IntKind.i64.wrap (L / way) = L / way := IntWalk.i64_in _ (by omega)
    have wz : (way == 0) = false := by simp; omega
    have wz2 : ¬ way = 0 := by omega
    have hgt : decide ((10000 : Int) < L / way) = false := by simp; omega
    have hgt2 : ¬ ((10000 : Int) < L / way) := by omega
    have HIQ := Lib.hid hi; have HN4 := Lib.hid hn4
    clear hi hL hnL
    go_wp2_with fail
    clear c0
    go_loopw [8, 9] (fun lv iv wr => ∃ (k : Nat) (v : Value), v = lv ∧ iv = .int .i64 ((k : Int) + 1) ∧ k ≤ i ∧ Hid (wr.ownsRow w2.heap.size 67 2 v (cntN ss way k) (splVs ss way (cntN ss way k))) ∧ Hid (w2.grownBy wr none))
      (fun _ iv _ => ss.length - (intOf iv).toNat)
    case atStart => exact ⟨0, _, rfl, by go_num, Nat.zero_le _, by rw [cnt_zero]; exact World.ownsRow_nil _ _ _ _, grown_refl _ _⟩
    case round =>
      obtain ⟨k, v, rfl, rfl, hki, hown, hg⟩ := hrel
      obtain ⟨k1, hk1⟩ : ∃ k1, k1 = k + 1 := ⟨_, rfl⟩
      have ek : (k : Int) + 1 = (k1 : Int) := by omega
      rw [ek]
      have HK1 := Lib.hid hk1
      by_cases hlt : k1 < ss.length
      · obtain ⟨b, off, rfl⟩ : ∃ b off, so = some ⟨b, off, none⟩ := by
          have hne : ss ≠ [] := fun h => h0 (by rw [h]; rfl)
          cases so with
          | none => exact absurd (HA.out.hs.nil rfl) hne
          | some p =>
            obtain ⟨b, off, spot⟩ := p
            have hsp := HA.out.hs.spot _ rfl hne
            simp only at hsp
            subst hsp
            exact ⟨b, off, rfl⟩
        have HSW := HA.out.hs.grown (grown_trans G2.out hg.out)
        have hkn : k < ss.length := by omega
        obtain ⟨p0, p1, p2, p3, p4, p5, p6⟩ := HSW.cells _ rfl k hkn
        obtain ⟨q0, q1, q2, q3, q4, q5, q6⟩ := HSW.cells _ rfl k1 hlt
        rw [← smpD_at hkn] at p0 p1 p2 p3 p4 p5 p6
        rw [← smpD_at hlt] at q0 q1 q2 q3 q4 q5 q6
        have hk0 := HS.out.inn k hkn; have hk1b := HS.out.inn k1 hlt
        have hup := HS.out.up k (by omega)
        rw [← hk1] at hup
        have HPK : Hid (smpD ss k = smpD ss k) := rfl
        obtain ⟨P, hP⟩ : ∃ P, smpD ss k = P := ⟨_, rfl⟩
        obtain ⟨Q, hQ⟩ : ∃ Q, smpD ss k1 = Q := ⟨_, rfl⟩
        rw [hP] at p0 p1 p2 p3 p4 p5 p6 hk0 hup
        rw [hQ] at q0 q1 q2 q3 q4 q5 q6 hk1b hup
        have HPP := Lib.hid hP; have HQQ := Lib.hid hQ
        clear hP hQ HPK HSW
        obtain ⟨pt, px, py, pz, pp, pq, ps⟩ := P
        obtain ⟨qt, qx, qy, qz, qp, qq, qs⟩ := Q
        simp only at p0 p1 p2 p3 p4 p5 p6 q0 q1 q2 q3 q4 q5 q6
        have hpt : 0 ≤ pt ∧ pt ≤ 1000000 := ⟨hk0.1, hk0.2.1⟩
        have hqt : pt < qt ∧ qt ≤ 1000000 := ⟨hup, hk1b.2.1⟩
        have b3 := grown_cell hg.out HB3.out
        have k1l : (k1 : Int) < (ss.length : Int) := by omega
        have kl : (k : Int) < (ss.length : Int) := by omega
        have k10 : (0 : Int) ≤ (k1 : Int) := by omega
        have k00 : (0 : Int) ≤ (k : Int) := by omega
        have rk1 : IntKind.i64.wrap ((k1 : Int) - 1) = (k : Int) := by rw [show (k1 : Int) - 1 = (k : Int) by omega]; exact IntWalk.i64_in _ (by omega)
        clear hk0 hk1b hup hk1 ek
        have hS0 : (wr.grownBy wr none ∧ World.cell? wr ⟨w.heap.size, 3, none⟩ = some (.slice (some ⟨b, off, none⟩) ss.length sc) ∧ World.cell? wr ⟨b, off + k * 7, none⟩ = some (.int .i64 pt) ∧ World.cell? wr ⟨b, off + k * 7 + 1, none⟩ = some (.int .i64 px) ∧ World.cell? wr ⟨b, off + k * 7 + 2, none⟩ = some (.int .i64 py) ∧ World.cell? wr ⟨b, off + k * 7 + 3, none⟩ = some (.int .i64 pz) ∧ World.cell? wr ⟨b, off + k * 7 + 4, none⟩ = some (.int .i64 pp) ∧ World.cell? wr ⟨b, off + k * 7 + 5, none⟩ = some (.int .i64 pq) ∧ World.cell? wr ⟨b, off + k * 7 + 6, none⟩ = some (.int .i64 ps) ∧ World.cell? wr ⟨b, off + k1 * 7, none⟩ = some (.int .i64 qt) ∧ World.cell? wr ⟨b, off + k1 * 7 + 1, none⟩ = some (.int .i64 qx) ∧ World.cell? wr ⟨b, off + k1 * 7 + 2, none⟩ = some (.int .i64 qy) ∧ World.cell? wr ⟨b, off + k1 * 7 + 3, none⟩ = some (.int .i64 qz) ∧ World.cell? wr ⟨b, off + k1 * 7 + 4, none⟩ = some (.int .i64 qp) ∧ World.cell? wr ⟨b, off + k1 * 7 + 5, none⟩ = some (.int .i64 qq) ∧ World.cell? wr ⟨b, off + k1 * 7 + 6, none⟩ = some (.int .i64 qs)) := ⟨grown_refl _ _, b3, p0, p1, p2, p3, p4, p5, p6, q0, q1, q2, q3, q4, q5, q6⟩
        have hstep : ∀ W W' : World, (wr.grownBy W none ∧ World.cell? W ⟨w.heap.size, 3, none⟩ = some (.slice (some ⟨b, off, none⟩) ss.length sc) ∧ World.cell? W ⟨b, off + k * 7, none⟩ = some (.int .i64 pt) ∧ World.cell? W ⟨b, off + k * 7 + 1, none⟩ = some (.int .i64 px) ∧ World.cell? W ⟨b, off + k * 7 + 2, none⟩ = some (.int .i64 py) ∧ World.cell? W ⟨b, off + k * 7 + 3, none⟩ = some (.int .i64 pz) ∧ World.cell? W ⟨b, off + k * 7 + 4, none⟩ = some (.int .i64 pp) ∧ World.cell? W ⟨b, off + k * 7 + 5, none⟩ = some (.int .i64 pq) ∧ World.cell? W ⟨b, off + k * 7 + 6, none⟩ = some (.int .i64 ps) ∧ World.cell? W ⟨b, off + k1 * 7, none⟩ = some (.int .i64 qt) ∧ World.cell? W ⟨b, off + k1 * 7 + 1, none⟩ = some (.int .i64 qx) ∧ World.cell? W ⟨b, off + k1 * 7 + 2, none⟩ = some (.int .i64 qy) ∧ World.cell? W ⟨b, off + k1 * 7 + 3, none⟩ = some (.int .i64 qz) ∧ World.cell? W ⟨b, off + k1 * 7 + 4, none⟩ = some (.int .i64 qp) ∧ World.cell? W ⟨b, off + k1 * 7 + 5, none⟩ = some (.int .i64 qq) ∧ World.cell? W ⟨b, off + k1 * 7 + 6, none⟩ = some (.int .i64 qs)) → W.grownBy W' none → (wr.grownBy W' none ∧ World.cell? W' ⟨w.heap.size, 3, none⟩ = some (.slice (some ⟨b, off, none⟩) ss.length sc) ∧ World.cell? W' ⟨b, off + k * 7, none⟩ = some (.int .i64 pt) ∧ World.cell? W' ⟨b, off + k * 7 + 1, none⟩ = some (.int .i64 px) ∧ World.cell? W' ⟨b, off + k * 7 + 2, none⟩ = some (.int .i64 py) ∧ World.cell? W' ⟨b, off + k * 7 + 3, none⟩ = some (.int .i64 pz) ∧ World.cell? W' ⟨b, off + k * 7 + 4, none⟩ = some (.int .i64 pp) ∧ World.cell? W' ⟨b, off + k * 7 + 5, none⟩ = some (.int .i64 pq) ∧ World.cell? W' ⟨b, off + k * 7 + 6, none⟩ = some (.int .i64 ps) ∧ World.cell? W' ⟨b, off + k1 * 7, none⟩ = some (.int .i64 qt) ∧ World.cell? W' ⟨b, off + k1 * 7 + 1, none⟩ = some (.int .i64 qx) ∧ World.cell? W' ⟨b, off + k1 * 7 + 2, none⟩ = some (.int .i64 qy) ∧ World.cell? W' ⟨b, off + k1 * 7 + 3, none⟩ = some (.int .i64 qz) ∧ World.cell? W' ⟨b, off + k1 * 7 + 4, none⟩ = some (.int .i64 qp) ∧ World.cell? W' ⟨b, off + k1 * 7 + 5, none⟩ = some (.int .i64 qq) ∧ World.cell? W' ⟨b, off + k1 * 7 + 6, none⟩ = some (.int .i64 qs)) := fun W W' h g => ⟨grown_trans h.1 g, grown_cell g h.2.1, grown_cell g h.2.2.1, grown_cell g h.2.2.2.1, grown_cell g h.2.2.2.2.1, grown_cell g h.2.2.2.2.2.1, grown_cell g h.2.2.2.2.2.2.1, grown_cell g h.2.2.2.2.2.2.2.1, grown_cell g h.2.2.2.2.2.2.2.2.1, grown_cell g h.2.2.2.2.2.2.2.2.2.1, grown_cell g h.2.2.2.2.2.2.2.2.2.2.1, grown_cell g h.2.2.2.2.2.2.2.2.2.2.2.1, grown_cell g h.2.2.2.2.2.2.2.2.2.2.2.2.1, grown_cell g h.2.2.2.2.2.2.2.2.2.2.2.2.2.1, grown_cell g h.2.2.2.2.2.2.2.2.2.2.2.2.2.2.1, grown_cell g h.2.2.2.2.2.2.2.2.2.2.2.2.2.2.2⟩
        have hSd : (wr.grownBy wr.drew none ∧ World.cell? wr.drew ⟨w.heap.size, 3, none⟩ = some (.slice (some ⟨b, off, none⟩) ss.length sc) ∧ World.cell? wr.drew ⟨b, off + k * 7, none⟩ = some (.int .i64 pt) ∧ World.cell? wr.drew ⟨b, off + k * 7 + 1, none⟩ = some (.int .i64 px) ∧ World.cell? wr.drew ⟨b, off + k * 7 + 2, none⟩ = some (.int .i64 py) ∧ World.cell? wr.drew ⟨b, off + k * 7 + 3, none⟩ = some (.int .i64 pz) ∧ World.cell? wr.drew ⟨b, off + k * 7 + 4, none⟩ = some (.int .i64 pp) ∧ World.cell? wr.drew ⟨b, off + k * 7 + 5, none⟩ = some (.int .i64 pq) ∧ World.cell? wr.drew ⟨b, off + k * 7 + 6, none⟩ = some (.int .i64 ps) ∧ World.cell? wr.drew ⟨b, off + k1 * 7, none⟩ = some (.int .i64 qt) ∧ World.cell? wr.drew ⟨b, off + k1 * 7 + 1, none⟩ = some (.int .i64 qx) ∧ World.cell? wr.drew ⟨b, off + k1 * 7 + 2, none⟩ = some (.int .i64 qy) ∧ World.cell? wr.drew ⟨b, off + k1 * 7 + 3, none⟩ = some (.int .i64 qz) ∧ World.cell? wr.drew ⟨b, off + k1 * 7 + 4, none⟩ = some (.int .i64 qp) ∧ World.cell? wr.drew ⟨b, off + k1 * 7 + 5, none⟩ = some (.int .i64 qq) ∧ World.cell? wr.drew ⟨b, off + k1 * 7 + 6, none⟩ = some (.int .i64 qs)) := hstep _ _ hS0 (grown_drewN _ _ 1)
        have HSTEP := Lib.hid hstep; have HSD := Lib.hid hSd
        clear hS0 hstep hSd
        go_upto_region 14 with (fail)
        clear b3 p0 p1 p2 p3 p4 p5 p6 q0 q1 q2 q3 q4 q5 q6
        go_cut [10, 11] (fun s10 s11 wx => ∃ Bp Bq, s10 = .pointer (some ⟨Bp, 0, none⟩) ∧ s11 = .pointer (some ⟨Bq, 0, none⟩) ∧ wr.grownBy wx none ∧ (wx.heap[Bp]? = some (.cells #[.int .i64 pt, .int .i64 px, .int .i64 py, .int .i64 pz, .int .i64 pp, .int .i64 pq, .int .i64 ps] 28 (0, 0)) ∧ wx.heap[Bq]? = some (.cells #[.int .i64 qt, .int .i64 qx, .int .i64 qy, .int .i64 qz, .int .i64 qp, .int .i64 qq, .int .i64 qs] 28 (0, 0))))
        case first =>
          have A1 : Hid (((wr.alloc (.cells #[.int .i64 pt, .int .i64 px, .int .i64 py, .int .i64 pz, .int .i64 pp, .int .i64 pq, .int .i64 ps] 28)).alloc (.cells #[.int .i64 qt, .int .i64 qx, .int .i64 qy, .int .i64 qz, .int .i64 qp, .int .i64 qq, .int .i64 qs] 28)).heap[wr.heap.size]? = some (.cells #[.int .i64 pt, .int .i64 px, .int .i64 py, .int .i64 pz, .int .i64 pp, .int .i64 pq, .int .i64 ps] 28 (0, 0))) := by show _ = _; rw [Below.heap_alloc _ _ _ (by simp)]; exact heap_alloc_new _ _
          have B1 : Hid (((wr.alloc (.cells #[.int .i64 pt, .int .i64 px, .int .i64 py, .int .i64 pz, .int .i64 pp, .int .i64 pq, .int .i64 ps] 28)).alloc (.cells #[.int .i64 qt, .int .i64 qx, .int .i64 qy, .int .i64 qz, .int .i64 qp, .int .i64 qq, .int .i64 qs] 28)).heap[wr.heap.size + 1]? = some (.cells #[.int .i64 qt, .int .i64 qx, .int .i64 qy, .int .i64 qz, .int .i64 qp, .int .i64 qq, .int .i64 qs] 28 (0, 0))) := by have := heap_alloc_new (wr.alloc (.cells #[.int .i64 pt, .int .i64 px, .int .i64 py, .int .i64 pz, .int .i64 pp, .int .i64 pq, .int .i64 ps] 28)) (.cells #[.int .i64 qt, .int .i64 qx, .int .i64 qy, .int .i64 qz, .int .i64 qp, .int .i64 qq, .int .i64 qs] 28); show _ = _; simpa using this
          have B2 : Hid (((wr.alloc (.cells #[.int .i64 qt, .int .i64 qx, .int .i64 qy, .int .i64 qz, .int .i64 qp, .int .i64 qq, .int .i64 qs] 28)).alloc (.cells #[.int .i64 pt, .int .i64 px, .int .i64 py, .int .i64 pz, .int .i64 pp, .int .i64 pq, .int .i64 ps] 28)).heap[wr.heap.size]? = some (.cells #[.int .i64 qt, .int .i64 qx, .int .i64 qy, .int .i64 qz, .int .i64 qp, .int .i64 qq, .int .i64 qs] 28 (0, 0))) := by show _ = _; rw [Below.heap_alloc _ _ _ (by simp)]; exact heap_alloc_new _ _
          have A2 : Hid (((wr.alloc (.cells #[.int .i64 qt, .int .i64 qx, .int .i64 qy, .int .i64 qz, .int .i64 qp, .int .i64 qq, .int .i64 qs] 28)).alloc (.cells #[.int .i64 pt, .int .i64 px, .int .i64 py, .int .i64 pz, .int .i64 pp, .int .i64 pq, .int .i64 ps] 28)).heap[wr.heap.size + 1]? = some (.cells #[.int .i64 pt, .int .i64 px, .int .i64 py, .int .i64 pz, .int .i64 pp, .int .i64 pq, .int .i64 ps] 28 (0, 0))) := by have := heap_alloc_new (wr.alloc (.cells #[.int .i64 qt, .int .i64 qx, .int .i64 qy, .int .i64 qz, .int .i64 qp, .int .i64 qq, .int .i64 qs] 28)) (.cells #[.int .i64 pt, .int .i64 px, .int .i64 py, .int .i64 pz, .int .i64 pp, .int .i64 pq, .int .i64 ps] 28); show _ = _; simpa using this
          go_region_held3 (fun W => (wr.grownBy W none ∧ World.cell? W ⟨w.heap.size, 3, none⟩ = some (.slice (some ⟨b, off, none⟩) ss.length sc) ∧ World.cell? W ⟨b, off + k * 7, none⟩ = some (.int .i64 pt) ∧ World.cell? W ⟨b, off + k * 7 + 1, none⟩ = some (.int .i64 px) ∧ World.cell? W ⟨b, off + k * 7 + 2, none⟩ = some (.int .i64 py) ∧ World.cell? W ⟨b, off + k * 7 + 3, none⟩ = some (.int .i64 pz) ∧ World.cell? W ⟨b, off + k * 7 + 4, none⟩ = some (.int .i64 pp) ∧ World.cell? W ⟨b, off + k * 7 + 5, none⟩ = some (.int .i64 pq) ∧ World.cell? W ⟨b, off + k * 7 + 6, none⟩ = some (.int .i64 ps) ∧ World.cell? W ⟨b, off + k1 * 7, none⟩ = some (.int .i64 qt) ∧ World.cell? W ⟨b, off + k1 * 7 + 1, none⟩ = some (.int .i64 qx) ∧ World.cell? W ⟨b, off + k1 * 7 + 2, none⟩ = some (.int .i64 qy) ∧ World.cell? W ⟨b, off + k1 * 7 + 3, none⟩ = some (.int .i64 qz) ∧ World.cell? W ⟨b, off + k1 * 7 + 4, none⟩ = some (.int .i64 qp) ∧ World.cell? W ⟨b, off + k1 * 7 + 5, none⟩ = some (.int .i64 qq) ∧ World.cell? W ⟨b, off + k1 * 7 + 6, none⟩ = some (.int .i64 qs))) (first | exact HSD.out | exact HSTEP.out _ _ HSD.out (World.grownBy_alloc _ _ none) | exact HSTEP.out _ _ HSD.out (grown_trans (World.grownBy_alloc _ _ none) (World.grownBy_alloc _ _ none))) (first | fail)
          all_goals
            rename_i hfin
            have G9 := hfin.1
            clear hfin HSTEP HSD
            go_wp2_with fail
            go_meet
            refine ⟨_, _, rfl, rfl, G9, ?_, ?_⟩
            · first | exact A1.out | exact A2.out
            · first | exact B1.out | exact B2.out
        case rest =>
          obtain ⟨Bp, Bq, rfl, rfl, hgx, hp, hq'⟩ := hcut
          have OWN := hown.out.kept hgx (by cases v.ownBlock <;> simp)
          obtain ⟨vo, vc, rfl⟩ := own_slice OWN
          obtain ⟨gk, hgk⟩ : ∃ x, wayN ss k = x := ⟨_, rfl⟩
          obtain ⟨gk1, hgk1⟩ : ∃ x, wayN ss k1 = x := ⟨_, rfl⟩
          have hgb := wayN_bd HP.out k; have hgb1 := wayN_bd HP.out k1
          have hci := cnt_iff HP.out w0 k; have hci1 := cnt_iff HP.out w0 k1
          have hup1 := cnt_up HP.out w0 k
          rw [← HK1.out] at hup1
          have hmo := cnt_mono HP.out w0 (a := k1) (b := i) (by have := HIQ.out; omega)
          have hn14 : cntN ss way k1 ≤ 10000 := Nat.le_trans hmo HN4.out
          have hwl : gk ≤ gk1 := by rw [← hgk, ← hgk1, HK1.out]; exact wayN_up HP.out k
          rw [hgk] at hgb hci
          rw [hgk1] at hgb1 hci1
          have hspl : Hid (∀ m, cntN ss way k ≤ m → m < cntN ss way k1 → splCs (spl ss way m) = [.int .i64 (nxW way m), .int .i64 (1000 * pt + (scaleV (nxW way m - gk) (1000 * (qt - pt)) (gk1 - gk) 2).1)]) := fun m h1 h2 => by
            rw [HK1.out] at h2
            have hl2 : k + 1 < ss.length := by have := HK1.out; omega
            rw [spl_at HP.out w0 hl2 h1 h2]
            unfold atD splCs nxW
            rw [← HK1.out, HPP.out, HQQ.out, hgk, hgk1]
          obtain ⟨n0, hn0⟩ : ∃ n, cntN ss way k = n := ⟨_, rfl⟩
          obtain ⟨n1, hn1⟩ : ∃ n, cntN ss way k1 = n := ⟨_, rfl⟩
          rw [hn0] at OWN hci hup1 hspl
          rw [hn1] at hci1 hup1 hn14 hspl
          have HOWN := Lib.hid OWN
          have HGX := Lib.hid (grown_trans hg.out hgx)
          have HPQ : Hid (wc.heap[Bp]? = some (.cells #[.int .i64 pt, .int .i64 px, .int .i64 py, .int .i64 pz, .int .i64 pp, .int .i64 pq, .int .i64 ps] 28 (0, 0)) ∧ wc.heap[Bq]? = some (.cells #[.int .i64 qt, .int .i64 qx, .int .i64 qy, .int .i64 qz, .int .i64 qp, .int .i64 qq, .int .i64 qs] 28 (0, 0))) := ⟨hp, hq'⟩
          have HN1 := Lib.hid hn1; have HGK := Lib.hid hgk; have HGK1 := Lib.hid hgk1
          have rn0 : IntKind.i64.wrap ((n0 : Int) + 1) = (n0 : Int) + 1 := IntWalk.i64_in _ (by omega)
          have nb0 := nxW_bd w0 w1 (m := n0) (by omega)
          have rm0 : IntKind.i64.wrap (((n0 : Int) + 1) * way) = nxW way n0 := by
            unfold nxW at nb0 ⊢; exact IntWalk.i64_in _ (by omega)
          rw [hn0]
          clear hgx hp hq' hn0 hn1 hgk hgk1 hmo hown hg
          go_wp2_with fail
          go_loopw [8, 12] (fun lv dv wi => ∃ (m : Nat) (v : Value), v = lv ∧ dv = .int .i64 (nxW way m) ∧ n0 ≤ m ∧ m ≤ n1 ∧ Hid (wi.ownsRow w2.heap.size 67 2 v m (splVs ss way m)) ∧ Hid (w2.grownBy wi none) ∧ Hid (wi.heap[Bp]? = some (.cells #[.int .i64 pt, .int .i64 px, .int .i64 py, .int .i64 pz, .int .i64 pp, .int .i64 pq, .int .i64 ps] 28 (0, 0)) ∧ wi.heap[Bq]? = some (.cells #[.int .i64 qt, .int .i64 qx, .int .i64 qy, .int .i64 qz, .int .i64 qp, .int .i64 qq, .int .i64 qs] 28 (0, 0))))
            (fun _ dv _ => (gk1 + 1 - intOf dv).toNat)
          case atStart => exact ⟨n0, _, rfl, rfl, Nat.le_refl _, hup1, HOWN.out, HGX.out, HPQ.out⟩
          case round =>
            obtain ⟨m, v, rfl, rfl, h1, h2, hown, hg, hpq⟩ := hrel
            have GG := hg.out
            obtain ⟨g', e1, c1⟩ := HII.out k hkn
            obtain ⟨g'', e2, c2⟩ := HII.out k1 hlt
            obtain rfl : g = g' := by injection e1 with e1; injection e1
            obtain rfl : g = g'' := by injection e2 with e2; injection e2
            replace c1 := grown_cell GG c1; replace c2 := grown_cell GG c2
            rw [HGK.out] at c1
            rw [HGK1.out] at c2
            have cp : wr.cell? ⟨Bp, 0, none⟩ = some (.int .i64 pt) := (cell_of_row _ _ 0 _ _ (0, 0) hpq.out.1).trans (by simp)
            have cq : wr.cell? ⟨Bq, 0, none⟩ = some (.int .i64 qt) := (cell_of_row _ _ 0 _ _ (0, 0) hpq.out.2).trans (by simp)
            have nb := nxW_bd w0 w1 (m := m) (by omega)
            clear GG e1 e2
            obtain ⟨nx, hnx⟩ : ∃ nx, nxW way m = nx := ⟨_, rfl⟩
            have HNX := Lib.hid hnx
            by_cases hle : nx ≤ gk1
            · have hlt2 : m < n1 := (hci1 m).2 (by rw [← hnx] at hle; exact hle)
              have hgm : gk < nx := by
                rcases Int.lt_or_le gk nx with q | q
                · exact q
                · have := (hci m).2 (by rw [← hnx] at q; exact q); omega
              have hsp := hspl.out m h1 hlt2
              rw [hnx] at hsp nb
              have rs1 : IntKind.i64.wrap (nx - gk) = nx - gk := IntWalk.i64_in _ (by omega)
              have rs2 : IntKind.i64.wrap (qt - pt) = qt - pt := IntWalk.i64_in _ (by omega)
              have rs3 : IntKind.i64.wrap (1000 * (qt - pt)) = 1000 * (qt - pt) := IntWalk.i64_in _ (by omega)
              have rs4 : IntKind.i64.wrap (gk1 - gk) = gk1 - gk := IntWalk.i64_in _ (by omega)
              obtain ⟨sc0, sc1, sc2, _⟩ := scale_up (a := nx - gk) (num := 1000 * (qt - pt)) (den := gk1 - gk) (by omega) (by omega) (by omega) (by omega) (by omega)
              have hsc := refScale_any (nx - gk) (1000 * (qt - pt)) (gk1 - gk) 2 (by omega) (by omega) (by omega) (by omega) (by omega) (by omega)
              rw [sc2] at hsc
              obtain ⟨bv, hb⟩ : ∃ b, (scaleV (nx - gk) (1000 * (qt - pt)) (gk1 - gk) 2).1 = b := ⟨_, rfl⟩
              rw [hb] at hsc hsp sc0 sc1
              have HSCL := Lib.hid hsc
              have rt0 : IntKind.i64.wrap (1000 * pt) = 1000 * pt := IntWalk.i64_in _ (by omega)
              have rt1 : IntKind.i64.wrap (1000 * pt + bv) = 1000 * pt + bv := IntWalk.i64_in _ (by omega)
              have rnx : IntKind.i64.wrap (nx + way) = nx + way := IntWalk.i64_in _ (by omega)
              have HNX2 : Hid (nxW way (m + 1) = nx + way) := by show _ = _; rw [nxW_succ, hnx]
              have HVS : Hid (splVs ss way (m + 1) = splVs ss way m ++ [.int .i64 nx, .int .i64 (1000 * pt + bv)]) := by show _ = _; rw [splVs_succ, hsp]
              rw [hnx]
              clear hsp hsc hb sc2 hnx
              have hS0 : (wr.grownBy wr none ∧ World.cell? wr ⟨g, k, none⟩ = some (.int .i64 gk) ∧ World.cell? wr ⟨g, k1, none⟩ = some (.int .i64 gk1) ∧ World.cell? wr ⟨Bq, 0, none⟩ = some (.int .i64 qt) ∧ World.cell? wr ⟨Bp, 0, none⟩ = some (.int .i64 pt)) := ⟨grown_refl _ _, c1, c2, cq, cp⟩
              have hstep : ∀ W W' : World, (wr.grownBy W none ∧ World.cell? W ⟨g, k, none⟩ = some (.int .i64 gk) ∧ World.cell? W ⟨g, k1, none⟩ = some (.int .i64 gk1) ∧ World.cell? W ⟨Bq, 0, none⟩ = some (.int .i64 qt) ∧ World.cell? W ⟨Bp, 0, none⟩ = some (.int .i64 pt)) → W.grownBy W' none → (wr.grownBy W' none ∧ World.cell? W' ⟨g, k, none⟩ = some (.int .i64 gk) ∧ World.cell? W' ⟨g, k1, none⟩ = some (.int .i64 gk1) ∧ World.cell? W' ⟨Bq, 0, none⟩ = some (.int .i64 qt) ∧ World.cell? W' ⟨Bp, 0, none⟩ = some (.int .i64 pt)) := fun W W' h g => ⟨grown_trans h.1 g, grown_cell g h.2.1, grown_cell g h.2.2.1, grown_cell g h.2.2.2.1, grown_cell g h.2.2.2.2⟩
              have hSd : (wr.grownBy wr.drew none ∧ World.cell? wr.drew ⟨g, k, none⟩ = some (.int .i64 gk) ∧ World.cell? wr.drew ⟨g, k1, none⟩ = some (.int .i64 gk1) ∧ World.cell? wr.drew ⟨Bq, 0, none⟩ = some (.int .i64 qt) ∧ World.cell? wr.drew ⟨Bp, 0, none⟩ = some (.int .i64 pt)) := hstep _ _ hS0 (grown_drewN _ _ 1)
              have HSTEP := Lib.hid hstep; have HSD := Lib.hid hSd
              clear hS0 hstep hSd
              go_wp2_with fail
              clear c1 c2 cp cq
              go_region_held3 (fun W => (wr.grownBy W none ∧ World.cell? W ⟨g, k, none⟩ = some (.int .i64 gk) ∧ World.cell? W ⟨g, k1, none⟩ = some (.int .i64 gk1) ∧ World.cell? W ⟨Bq, 0, none⟩ = some (.int .i64 qt) ∧ World.cell? W ⟨Bp, 0, none⟩ = some (.int .i64 pt))) (first | exact HSD.out | (refine HSTEP.out _ _ ?_ (by assumption) <;> assumption)) (first
                | (go_at_call 113; refine (HSCL.out _).mono ?_; rintro x w7 ⟨rfl, hg7⟩))
              all_goals
                rename_i hfin
                obtain ⟨w9, hw9⟩ : ∃ w9, w9 = w7 := ⟨_, rfl⟩
                subst hw9
                have G9 := Lib.hid hfin.1
                have cp9 := hfin.2.2.2.2
                have OWN9 : Hid (w9.ownsRow w2.heap.size 67 2 v m (splVs ss way m)) := hown.out.kept G9.out (by cases v.ownBlock <;> simp)
                have HGW := Lib.hid (grown_trans hg.out G9.out)
                have hi := HI0.out; have hz0 := HZ0.out; have hz1 := HZ1.out; have hz2 := HZ2.out
                have HSZ : Hid (w2.heap.size ≤ w9.heap.size) := by
                  show _ ≤ _; exact HGW.out.size
                clear hfin HSTEP HSD hown hg
                go_wp2_with (at_builtin; refine wpList_append_own _ rfl _ _ 62 rfl w2.heap.size 67 i0 (.agg #[.int .i64 0, .int .i64 0]) 2 16 Try.underlying62 hi hz0 hz1 hz2 rfl (by decide) v m _ rfl (OWN9.out.alloc _) ⟨w9.heap.size, 0, none⟩ 1 1 [.int .i64 nx, .int .i64 (1000 * pt + bv)] rfl rfl (World.news_of_block (cs := #[.int .i64 nx, .int .i64 (1000 * pt + bv)]) (t := 67) (fr := (0, 0)) (heap_alloc_new w9 _)) (by simp [Value.oneCell']) (by unfold maxLen; omega) (by omega) (by have := HSZ.out; simp; omega) ?_; intro v' w10 hown' hgrow' _)
                have hlt3 := OWN9.out.lt
                have HO2 : Hid (w10.ownsRow w2.heap.size 67 2 v' (m + 1) (splVs ss way (m + 1))) := by
                  show World.ownsRow _ _ _ _ _ _ _; rw [HVS.out]; exact hown'
                have G10 : Hid (w2.grownBy w10 none) := grown_own HGW.out hgrow' (fun q e => (hlt3 q e).1)
                have HPQ9 : Hid (w9.heap[Bp]? = some (.cells #[.int .i64 pt, .int .i64 px, .int .i64 py, .int .i64 pz, .int .i64 pp, .int .i64 pq, .int .i64 ps] 28 (0, 0)) ∧ w9.heap[Bq]? = some (.cells #[.int .i64 qt, .int .i64 qx, .int .i64 qy, .int .i64 qz, .int .i64 qp, .int .i64 qq, .int .i64 qs] 28 (0, 0))) := ⟨(G9.out.block _ (lt_of_block hpq.out.1) (by simp)).trans hpq.out.1, (G9.out.block _ (lt_of_block hpq.out.2) (by simp)).trans hpq.out.2⟩
                have ne1 : v.ownBlock ≠ some Bp := own_far OWN9.out HPQ9.out.1 (by decide)
                have ne2 : v.ownBlock ≠ some Bq := own_far OWN9.out HPQ9.out.2 (by decide)
                have HPQ10 : Hid (w10.heap[Bp]? = some (.cells #[.int .i64 pt, .int .i64 px, .int .i64 py, .int .i64 pz, .int .i64 pp, .int .i64 pq, .int .i64 ps] 28 (0, 0)) ∧ w10.heap[Bq]? = some (.cells #[.int .i64 qt, .int .i64 qx, .int .i64 qy, .int .i64 qz, .int .i64 qp, .int .i64 qq, .int .i64 qs] 28 (0, 0))) := ⟨((hgrow'.block Bp (by have := lt_of_block HPQ9.out.1; simp; omega) (fun e => ne1 e.symm)).trans (Below.heap_alloc _ _ _ (lt_of_block HPQ9.out.1))).trans HPQ9.out.1, ((hgrow'.block Bq (by have := lt_of_block HPQ9.out.2; simp; omega) (fun e => ne2 e.symm)).trans (Below.heap_alloc _ _ _ (lt_of_block HPQ9.out.2))).trans HPQ9.out.2⟩
                clear hown' hgrow' hlt3
                go_wp2_with fail
                go_roundw
                case rel => exact ⟨m + 1, _, rfl, by rw [HNX2.out], by omega, by omega, HO2.out, G10.out, HPQ10.out⟩
                case measure => first | (simp [intOf]; done) | (simp [intOf]; omega)
            · obtain rfl : m = n1 := by
                rcases Nat.lt_or_ge m n1 with q | q
                · have := (hci1 m).1 q
                  exact absurd (by rw [← hnx]; exact this) hle
                · omega
              rw [hnx]
              have GN := hg
              clear hnx c1 cp cq
              go_wp2_with fail
              go_roundw
              case rel => exact ⟨k1, _, rfl, by go_num, by have := HIQ.out; omega, by rw [HN1.out]; exact hown.out, GN.out⟩
              case measure => first | (simp [intOf]; done) | (simp [intOf]; omega)
      · obtain rfl : k = i := by have := HIQ.out; have := HK1.out; omega
        have HE : Hid (cntN ss way (ss.length - 1) = cntN ss way k) := by show _ = _; rw [HIQ.out]
        have hlt9 : ¬ ((k1 : Int) < (ss.length : Int)) := by omega
        clear hki ek
        go_wp2_with fail
        go_ret2
        exact ⟨⟨_, rfl, by rw [HE.out]; exact own_low2 hown.out G2.out.size⟩, grown_trans G2.out hg.out⟩
end Go.Proofs.Ytgkhhfojioepgaa
