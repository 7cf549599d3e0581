/- The contract of the reference's step. -/
import Derived.Test.YtmfnphknoclhfaaERRoot
import Derived.Test.YtmfnphknoclhfaaEStreamOf
namespace Go.Proofs.Ytmfnphknoclhfaa
open Go.RowKit

/-- The length of a step, as the reference counts it. -/
noncomputable def lenE (p q : Smp) (kind : Int) : Int := if kind = 4 then stepW p q else if kind = 5 then max 0 (q.z - p.z) else 0
theorem stepN_ref {p q : Smp} {kind : Int} (k1 : 1 ≤ kind) (k5 : kind ≤ 5) {S : Nat} (hS : q.t - p.t = S) (j : Nat) :
    stepN kind p q j = if 4 ≤ kind then (if 60 < (S : Int) then 0 else (lenE p q kind * ((j : Int) + 1)).tdiv S - (lenE p q kind * (j : Int)).tdiv S) else if 60 < (S : Int) then -1 else mesE p kind := by
  unfold stepN
  rw [hS]
  have hi : idleB p q = decide (60 < (S : Int)) := by unfold idleB; rw [hS]
  by_cases h4 : 4 ≤ kind
  · rw [if_pos h4, if_pos h4]
    by_cases hI : 60 < (S : Int)
    · rw [if_pos hI]
      have : amtE p q kind = 0 := by unfold amtE; rw [hi, decide_eq_true hI, if_pos rfl]
      rw [this]; unfold upto; simp
    · rw [if_neg hI]
      have : amtE p q kind = lenE p q kind := by
        unfold amtE lenE
        rw [hi, decide_eq_false hI, if_neg (by simp)]
        by_cases e : kind = 4
        · rw [if_pos e, if_pos e]
        · rw [if_neg e, if_neg e, if_pos (by omega)]; omega
      rw [this]; unfold upto; rfl
  · rw [if_neg h4, if_neg h4]
    unfold valE mesE
    rw [hi]
    by_cases hI : 60 < (S : Int)
    · rw [decide_eq_true hI, if_pos rfl, if_pos hI]
    · rw [decide_eq_false hI, if_neg (by simp), if_neg hI]

set_option maxRecDepth 100000 in
set_option maxHeartbeats 12800000 in
theorem rstep4_idle (p q : Smp) (h : StepIn p q) (kind : Int) (k1 : 1 ≤ kind) (k5 : kind ≤ 5) (w : World) {S : Nat} (hS : Hid (q.t - p.t = S)) (hI : 60 < (S : Int)) :
    Calls Try.prog 145 #[.agg #[.int .i64 p.t, .int .i64 p.x, .int .i64 p.y, .int .i64 p.z, .int .i64 p.p, .int .i64 p.q, .int .i64 p.s], .agg #[.int .i64 q.t, .int .i64 q.x, .int .i64 q.y, .int .i64 q.z, .int .i64 q.p, .int .i64 q.q, .int .i64 q.s], .int .i64 kind] w fun e w' => (∃ v, e = .returned v ∧ w'.ownsRow (w.heap.size + 2) 3 1 v S (ints (stepTo kind p q S))) ∧ w.grownBy w' none := by
  obtain ⟨i0, hi, hz0, hz1, hz2⟩ := info_parts info_int
  have HI := Lib.hid hi; have HZ0 := Lib.hid hz0; have HZ1 := Lib.hid hz1; have HZ2 := Lib.hid hz2
  have HSEC0 := Lib.hid (stepN_ref k1 k5 hS.out)
  have HST := Lib.hid h
  have ht0 := h.t.p0; have ht1 := h.t.pq; have ht2 := h.t.q1
  have hip := h.ip; have hiq := h.iq; have hpz := h.pz; have hqz := h.qz
  have hsqb := sqP_bd h.ip h.iq
  have hswb := stepW_bd h.ip h.iq
  obtain ⟨R, hR, hIR⟩ := rootI_is (sqP p q)
  obtain ⟨m, hm⟩ : ∃ m : Nat, (m : Int) = sqP p q := ⟨(sqP p q).toNat, by omega⟩
  have hmt : (sqP p q).toNat = m := by omega
  rw [hmt] at hIR
  have HIR := Lib.hid hIR
  have hml : m < 9223372036854775808 := by omega
  have HML := Lib.hid hml
  have hRW : stepW p q = (R : Int) := hR
  obtain ⟨pt, px, py, pz, pp, pq, ps⟩ := p
  obtain ⟨qt, qx, qy, qz, qp, qq, qs⟩ := q
  have hsv := hS.out
  unfold inPlane at hip hiq
  simp only at ht0 ht1 ht2 hsv hip hiq hpz hqz
  have hS1 : (S : Int) ≤ 1000000 := by omega
  have hS0 : 1 ≤ (S : Int) := by omega
  have rs0 : IntKind.i64.wrap (qt - pt) = (S : Int) := by rw [hsv]; exact IntWalk.i64_in _ (by omega)
  have HGB : Hid (w.grownBy ((w.alloc (.cells #[.int .i64 pt, .int .i64 px, .int .i64 py, .int .i64 pz, .int .i64 pp, .int .i64 pq, .int .i64 ps] 181)).alloc (.cells #[.int .i64 qt, .int .i64 qx, .int .i64 qy, .int .i64 qz, .int .i64 qp, .int .i64 qq, .int .i64 qs] 181)) none) := grown_trans (World.grownBy_alloc _ _ _) (World.grownBy_alloc _ _ _)
  have HSPB : Hid (w.heap.size + 2 ≤ ((w.alloc (.cells #[.int .i64 pt, .int .i64 px, .int .i64 py, .int .i64 pz, .int .i64 pp, .int .i64 pq, .int .i64 ps] 181)).alloc (.cells #[.int .i64 qt, .int .i64 qx, .int .i64 qy, .int .i64 qz, .int .i64 qp, .int .i64 qq, .int .i64 qs] 181)).heap.size) := by show _ ≤ _; simp
  have HBPB : Hid (((w.alloc (.cells #[.int .i64 pt, .int .i64 px, .int .i64 py, .int .i64 pz, .int .i64 pp, .int .i64 pq, .int .i64 ps] 181)).alloc (.cells #[.int .i64 qt, .int .i64 qx, .int .i64 qy, .int .i64 qz, .int .i64 qp, .int .i64 qq, .int .i64 qs] 181)).heap[w.heap.size]? = some (.cells #[.int .i64 pt, .int .i64 px, .int .i64 py, .int .i64 pz, .int .i64 pp, .int .i64 pq, .int .i64 ps] 181 (0, 0))) := by
    show _ = _
    rw [Below.heap_alloc _ _ _ (by simp)]; exact heap_alloc_new w _
  clear hi hz0 hz1 hz2 hIR hmt hml h hS
  have HGOAL : Hid (lenE ⟨pt, px, py, pz, pp, pq, ps⟩ ⟨qt, qx, qy, qz, qp, qq, qs⟩ kind = if kind = 4 then (R : Int) else if kind = 5 then max 0 (qz - pz) else 0) := by
    show _ = _
    unfold lenE
    rw [hRW]
  have hn : (qx - px) * (qx - px) + (qy - py) * (qy - py) = (m : Int) := hm.symm
  obtain ⟨dx, hdx⟩ : ∃ d, qx - px = d := ⟨_, rfl⟩
  obtain ⟨dy, hdy⟩ : ∃ d, qy - py = d := ⟨_, rfl⟩
  rw [hdx, hdy] at hn
  have bx := sq_bd (a := dx) (by omega) (by omega)
  have by_ := sq_bd (a := dy) (by omega) (by omega)
  have rx : IntKind.i64.wrap (qx - px) = dx := by rw [hdx]; exact IntWalk.i64_in _ (by omega)
  have ry : IntKind.i64.wrap (qy - py) = dy := by rw [hdy]; exact IntWalk.i64_in _ (by omega)
  obtain ⟨X, hX⟩ : ∃ d, dx * dx = d := ⟨_, rfl⟩
  obtain ⟨Y, hY⟩ : ∃ d, dy * dy = d := ⟨_, rfl⟩
  rw [hX, hY] at hn
  rw [hX] at bx
  rw [hY] at by_
  have mx : IntKind.i64.wrap (dx * dx) = X := by rw [hX]; exact IntWalk.i64_in _ (by omega)
  have my : IntKind.i64.wrap (dy * dy) = Y := by rw [hY]; exact IntWalk.i64_in _ (by omega)
  have mz : IntKind.i64.wrap (X + Y) = (m : Int) := by rw [hn]; exact IntWalk.i64_in _ (by omega)
  have wdz : IntKind.i64.wrap (qz - pz) = qz - pz := IntWalk.i64_in _ (by omega)
  have hR3 : (R : Int) ≤ 300000000 := by rw [← hRW]; exact hswb.2
  have HR3 := Lib.hid hR3
  have HZB : Hid ((-100000 ≤ pz ∧ pz ≤ 100000) ∧ -100000 ≤ qz ∧ qz ≤ 100000) := ⟨hpz, hqz⟩
  clear hdx hdy hX hY hn hm hR hRW hsqb hswb hsv hip hiq hR3 bx by_ hpz hqz
  go_enter Try.func145, Try.ntmps145
  go_upto_block 0 with (fail)
  go_cut [9] (fun s9 wx => ∃ len : Int, s9 = .int .i64 len ∧ 0 ≤ len ∧ len ≤ 300000000 ∧ Hid (lenE ⟨pt, px, py, pz, pp, pq, ps⟩ ⟨qt, qx, qy, qz, qp, qq, qs⟩ kind = len) ∧ Hid (w.grownBy wx none) ∧ Hid (w.heap.size + 2 ≤ wx.heap.size) ∧ Hid (wx.heap[w.heap.size]? = some (.cells #[.int .i64 pt, .int .i64 px, .int .i64 py, .int .i64 pz, .int .i64 pp, .int .i64 pq, .int .i64 ps] 181 (0, 0))))
  case first =>
    by_cases e4 : kind = 4
    · have q4 : (kind == 4) = true := by simpa using e4
      have HL : Hid (lenE ⟨pt, px, py, pz, pp, pq, ps⟩ ⟨qt, qx, qy, qz, qp, qq, qs⟩ kind = (R : Int)) := by show _ = _; rw [HGOAL.out, if_pos e4]
      clear e4 HGOAL
      go_wp2_with fail
      refine (eroot_any m R HML.out HIR _).mono ?_; rintro e w1 ⟨rfl, rfl⟩
      go_wp2_with fail
      go_meet
      exact ⟨_, rfl, by omega, HR3.out, HL.out, HGB.out, HSPB.out, HBPB.out⟩
    · have q4 : (kind == 4) = false := by simpa using e4
      by_cases e5 : kind = 5
      · have q5 : (kind == 5) = true := by simpa using e5
        have HL : Hid (lenE ⟨pt, px, py, pz, pp, pq, ps⟩ ⟨qt, qx, qy, qz, qp, qq, qs⟩ kind = max 0 (qz - pz)) := by show _ = _; rw [HGOAL.out, if_neg e4, if_pos e5]
        clear e4 e5 HGOAL rx ry mx my mz
        go_wp2_with fail
        all_goals
          go_meet
          refine ⟨_, rfl, ?_, ?_, ?_, HGB.out, HSPB.out, HBPB.out⟩
          · have := HZB.out; omega
          · have := HZB.out; omega
          · show _ = _; rw [HL.out]; omega
      · have q5 : (kind == 5) = false := by simpa using e5
        have HL : Hid (lenE ⟨pt, px, py, pz, pp, pq, ps⟩ ⟨qt, qx, qy, qz, qp, qq, qs⟩ kind = 0) := by show _ = _; rw [HGOAL.out, if_neg e4, if_neg e5]
        clear e4 e5 HGOAL rx ry mx my mz
        go_wp2_with fail
        go_meet
        exact ⟨_, rfl, by omega, by omega, HL.out, HGB.out, HSPB.out, HBPB.out⟩
  case rest =>
    obtain ⟨len, rfl, l0, l1, hln, hgB, hspB, hbpB⟩ := hcut
    have HSEC : Hid (∀ j : Nat, stepN kind ⟨pt, px, py, pz, pp, pq, ps⟩ ⟨qt, qx, qy, qz, qp, qq, qs⟩ j = if 4 ≤ kind then (if 60 < (S : Int) then 0 else (len * ((j : Int) + 1)).tdiv S - (len * (j : Int)).tdiv S) else if 60 < (S : Int) then -1 else mesE ⟨pt, px, py, pz, pp, pq, ps⟩ kind) := by
      have e := HSEC0.out
      rw [hln.out] at e
      exact e
    replace HGB := Lib.hid hgB.out; replace HSPB := Lib.hid hspB.out; replace HBPB := Lib.hid hbpB.out
    clear hln hgB hspB hbpB HSEC0 rx ry mx my mz wdz
    go_wp2_with fail
    go_loopw [10, 56] (fun lv iv wr => ∃ (k : Nat) (u : Value), u = lv ∧ iv = .int .i64 k ∧ k ≤ S ∧ Hid (wr.ownsRow (w.heap.size + 2) 3 1 u k (ints (stepTo kind ⟨pt, px, py, pz, pp, pq, ps⟩ ⟨qt, qx, qy, qz, qp, qq, qs⟩ k))) ∧ Hid (w.grownBy wr none) ∧ Hid (w.heap.size + 2 ≤ wr.heap.size) ∧ Hid (wr.heap[w.heap.size]? = some (.cells #[.int .i64 pt, .int .i64 px, .int .i64 py, .int .i64 pz, .int .i64 pp, .int .i64 pq, .int .i64 ps] 181 (0, 0))))
      (fun _ iv _ => S - (intOf iv).toNat)
    case atStart => exact ⟨0, _, rfl, rfl, Nat.zero_le _, World.ownsRow_nil _ _ _ _, HGB.out, HSPB.out, HBPB.out⟩
    case round =>
      obtain ⟨k, u, rfl, rfl, hk, hown, hg, hsp, hbp⟩ := hrel
      by_cases hlt : k < S
      · have hki : (k : Int) < (S : Int) := by omega
        have hb := hbp.out
        have d0 : wr.cell? ⟨w.heap.size, 0, none⟩ = some (.int .i64 pt) := by simp [World.cell?, hb]
        have d1 : wr.cell? ⟨w.heap.size, 1, none⟩ = some (.int .i64 px) := by simp [World.cell?, hb]
        have d2 : wr.cell? ⟨w.heap.size, 2, none⟩ = some (.int .i64 py) := by simp [World.cell?, hb]
        have d3 : wr.cell? ⟨w.heap.size, 3, none⟩ = some (.int .i64 pz) := by simp [World.cell?, hb]
        have d4 : wr.cell? ⟨w.heap.size, 4, none⟩ = some (.int .i64 pp) := by simp [World.cell?, hb]
        have d5 : wr.cell? ⟨w.heap.size, 5, none⟩ = some (.int .i64 pq) := by simp [World.cell?, hb]
        have d6 : wr.cell? ⟨w.heap.size, 6, none⟩ = some (.int .i64 ps) := by simp [World.cell?, hb]
        clear hb
        obtain ⟨mv, hmv⟩ : ∃ v, mesE ⟨pt, px, py, pz, pp, pq, ps⟩ kind = v := ⟨_, rfl⟩
        have HMV := Lib.hid hmv
        clear hmv
        go_wp2_with fail
        refine (valueOf_is ⟨pt, px, py, pz, pp, pq, ps⟩ kind _ HMV).mono ?_; rintro e w1 ⟨rfl, hg1⟩
        by_cases h4 : 4 ≤ kind
        · have t0 := mul_bd2 l0 l1 (by omega : (0 : Int) ≤ (k : Int) + 1) (by omega : (k : Int) + 1 ≤ 1000000)
          have t1 := mul_bd2 l0 l1 (by omega : (0 : Int) ≤ (k : Int)) (by omega : (k : Int) ≤ 1000000)
          obtain ⟨X, hX⟩ : ∃ X, len * ((k : Int) + 1) = X := ⟨_, rfl⟩
          obtain ⟨Y, hY⟩ : ∃ Y, len * (k : Int) = Y := ⟨_, rfl⟩
          rw [hX] at t0; rw [hY] at t1
          have u0 := tdiv_bd t0.1 (by omega : 1 ≤ (S : Int))
          have u1 := tdiv_bd t1.1 (by omega : 1 ≤ (S : Int))
          have rk : IntKind.i64.wrap ((k : Int) + 1) = (k : Int) + 1 := IntWalk.i64_in _ (by omega)
          have rx : IntKind.i64.wrap (len * ((k : Int) + 1)) = X := by rw [hX]; exact IntWalk.i64_in _ (by omega)
          have ry : IntKind.i64.wrap (len * (k : Int)) = Y := by rw [hY]; exact IntWalk.i64_in _ (by omega)
          have wx : IntKind.i64.wrap (X.tdiv (S : Int)) = X.tdiv (S : Int) := IntWalk.i64_in _ (by omega)
          have wy : IntKind.i64.wrap (Y.tdiv (S : Int)) = Y.tdiv (S : Int) := IntWalk.i64_in _ (by omega)
          obtain ⟨Z, hZ⟩ : ∃ Z, X.tdiv (S : Int) - Y.tdiv (S : Int) = Z := ⟨_, rfl⟩
          have wz : IntKind.i64.wrap (X.tdiv (S : Int) - Y.tdiv (S : Int)) = Z := by rw [hZ]; exact IntWalk.i64_in _ (by omega)
          have hne0 : ¬ (S : Int) = 0 := by omega
          have hne1 : ((S : Int) == 0) = false := by rw [beq_eq_false_iff_ne]; omega
          have hval : stepN kind ⟨pt, px, py, pz, pp, pq, ps⟩ ⟨qt, qx, qy, qz, qp, qq, qs⟩ k = if 60 < (S : Int) then 0 else Z := by
            have := HSEC.out k
            rw [this, if_pos h4, ← hZ, ← hX, ← hY]
          clear hX hY t0 t1 u0 u1
          have HVAL : Hid (stepN kind ⟨pt, px, py, pz, pp, pq, ps⟩ ⟨qt, qx, qy, qz, qp, qq, qs⟩ k = 0) := by show _ = _; rw [hval, if_pos (by omega)]
          clear hval hZ
          have hi := HI.out; have hz0 := HZ0.out; have hz1 := HZ1.out; have hz2 := HZ2.out
          have OWN := Lib.hid (hown.out.kept hg1 (Classical.em _))
          have HGA : Hid (w.grownBy w1 none) := grown_trans hg.out hg1
          have HSP : Hid (w.heap.size + 2 ≤ w1.heap.size) := Nat.le_trans hsp.out hg1.size
          have HBP : Hid (w1.heap[w.heap.size]? = some (.cells #[.int .i64 pt, .int .i64 px, .int .i64 py, .int .i64 pz, .int .i64 pp, .int .i64 pq, .int .i64 ps] 181 (0, 0))) := (hg1.block _ (Array.getElem?_eq_some_iff.1 hbp.out).1 (by simp)).trans hbp.out
          clear hg1 hown hg hbp d0 d1 d2 d3 d4 d5 d6
          go_wp2_with fail
          go_quiet (fail)
          obtain ⟨W, hWq⟩ : ∃ W, W = w1.drewN nq := ⟨_, rfl⟩
          rw [← hWq]
          replace OWN : Hid (W.ownsRow (w.heap.size + 2) 3 1 u k (ints (stepTo kind ⟨pt, px, py, pz, pp, pq, ps⟩ ⟨qt, qx, qy, qz, qp, qq, qs⟩ k))) := by rw [hWq]; exact OWN.out
          replace HGA : Hid (w.grownBy W none) := by rw [hWq]; exact grown_trans HGA.out (grown_drewN _ _ _)
          replace HSP : Hid (w.heap.size + 2 ≤ W.heap.size) := by rw [hWq]; exact HSP.out
          replace HBP : Hid (W.heap[w.heap.size]? = some (.cells #[.int .i64 pt, .int .i64 px, .int .i64 py, .int .i64 pz, .int .i64 pp, .int .i64 pq, .int .i64 ps] 181 (0, 0))) := by rw [hWq]; exact HBP.out
          clear hWq
          go_wp2_with (at_builtin; refine wpList_append_own _ rfl _ _ 22 rfl (w.heap.size + 2) 3 i0 (.int .i64 0) 1 8 Try.underlying22 hi hz0 hz1 hz2 rfl (by decide) _ _ _ rfl (OWN.out.alloc _) ⟨W.heap.size, 0, none⟩ 1 1 [.int .i64 (0)] rfl rfl (cell_one_new _ (.int .i64 (0)) 3) (by intro u hu; simp at hu; subst hu; rfl) (by unfold maxLen; omega) (by omega) (by have := HSP.out; simp; omega) ?_; intro v' w3 hown' hgrow' _)
          have HOW2 : Hid (w3.ownsRow (w.heap.size + 2) 3 1 v' (k + 1) (ints (stepTo kind ⟨pt, px, py, pz, pp, pq, ps⟩ ⟨qt, qx, qy, qz, qp, qq, qs⟩ (k + 1)))) := by
            show World.ownsRow _ _ _ _ _ _ _; rw [stepTo_succ, ints_snoc, HVAL.out]; exact hown'
          have HG2 : Hid (w.grownBy w3 none) := grown_own HGA.out (g := ⟨hgrow'.os, hgrow'.tape, hgrow'.output, hgrow'.size, hgrow'.block⟩) (fun g e => by have := (OWN.out.lt g e).1; omega)
          have HSP2 : Hid (w.heap.size + 2 ≤ w3.heap.size) := by show _ ≤ _; have := hgrow'.size; have := HSP.out; simp at *; omega
          have HBP2 : Hid (w3.heap[w.heap.size]? = some (.cells #[.int .i64 pt, .int .i64 px, .int .i64 py, .int .i64 pz, .int .i64 pp, .int .i64 pq, .int .i64 ps] 181 (0, 0))) := by
            show _ = _
            rw [hgrow'.block _ (by have := HSP.out; simp; omega) (fun e => by have := (OWN.out.lt _ e.symm).1; omega), Below.heap_alloc _ _ _ (by have := HSP.out; show _ < W.heap.size; omega)]; exact HBP.out
          clear hown' hgrow' hi hz0 hz1 hz2 OWN HGA HSP HBP
          go_wp2_with fail
          go_roundw
          case rel => exact ⟨k + 1, _, rfl, by go_num, by omega, HOW2.out, HG2.out, HSP2.out, HBP2.out⟩
          case measure => simp [intOf]; omega
        · have hval : stepN kind ⟨pt, px, py, pz, pp, pq, ps⟩ ⟨qt, qx, qy, qz, qp, qq, qs⟩ k = if 60 < (S : Int) then -1 else mv := by
            have := HSEC.out k
            rw [this, if_neg h4, HMV.out]
          have HVAL : Hid (stepN kind ⟨pt, px, py, pz, pp, pq, ps⟩ ⟨qt, qx, qy, qz, qp, qq, qs⟩ k = -1) := by show _ = _; rw [hval, if_pos (by omega)]
          clear hval
          have hi := HI.out; have hz0 := HZ0.out; have hz1 := HZ1.out; have hz2 := HZ2.out
          have OWN := Lib.hid (hown.out.kept hg1 (Classical.em _))
          have HGA : Hid (w.grownBy w1 none) := grown_trans hg.out hg1
          have HSP : Hid (w.heap.size + 2 ≤ w1.heap.size) := Nat.le_trans hsp.out hg1.size
          have HBP : Hid (w1.heap[w.heap.size]? = some (.cells #[.int .i64 pt, .int .i64 px, .int .i64 py, .int .i64 pz, .int .i64 pp, .int .i64 pq, .int .i64 ps] 181 (0, 0))) := (hg1.block _ (Array.getElem?_eq_some_iff.1 hbp.out).1 (by simp)).trans hbp.out
          clear hg1 hown hg hbp d0 d1 d2 d3 d4 d5 d6
          go_wp2_with (at_builtin; refine wpList_append_own _ rfl _ _ 22 rfl (w.heap.size + 2) 3 i0 (.int .i64 0) 1 8 Try.underlying22 hi hz0 hz1 hz2 rfl (by decide) _ _ _ rfl (OWN.out.alloc _) ⟨w1.heap.size, 0, none⟩ 1 1 [.int .i64 (-1)] rfl rfl (cell_one_new _ (.int .i64 (-1)) 3) (by intro u hu; simp at hu; subst hu; rfl) (by unfold maxLen; omega) (by omega) (by have := HSP.out; simp; omega) ?_; intro v' w3 hown' hgrow' _)
          have HOW2 : Hid (w3.ownsRow (w.heap.size + 2) 3 1 v' (k + 1) (ints (stepTo kind ⟨pt, px, py, pz, pp, pq, ps⟩ ⟨qt, qx, qy, qz, qp, qq, qs⟩ (k + 1)))) := by
            show World.ownsRow _ _ _ _ _ _ _; rw [stepTo_succ, ints_snoc, HVAL.out]; exact hown'
          have HG2 : Hid (w.grownBy w3 none) := grown_own HGA.out (g := ⟨hgrow'.os, hgrow'.tape, hgrow'.output, hgrow'.size, hgrow'.block⟩) (fun g e => by have := (OWN.out.lt g e).1; omega)
          have HSP2 : Hid (w.heap.size + 2 ≤ w3.heap.size) := by show _ ≤ _; have := hgrow'.size; have := HSP.out; simp at *; omega
          have HBP2 : Hid (w3.heap[w.heap.size]? = some (.cells #[.int .i64 pt, .int .i64 px, .int .i64 py, .int .i64 pz, .int .i64 pp, .int .i64 pq, .int .i64 ps] 181 (0, 0))) := by
            show _ = _
            rw [hgrow'.block _ (by have := HSP.out; simp; omega) (fun e => by have := (OWN.out.lt _ e.symm).1; omega), Below.heap_alloc _ _ _ (by have := HSP.out; show _ < w1.heap.size; omega)]; exact HBP.out
          clear hown' hgrow' hi hz0 hz1 hz2 OWN HGA HSP HBP
          go_wp2_with fail
          go_roundw
          case rel => exact ⟨k + 1, _, rfl, by go_num, by omega, HOW2.out, HG2.out, HSP2.out, HBP2.out⟩
          case measure => simp [intOf]; omega
      · have hks : k = S := by omega
        subst hks
        have HOW := Lib.hid hown.out
        have HG := Lib.hid hg.out
        clear hown hg hbp hsp
        go_wp2_with fail
        go_ret
        exact ⟨⟨_, rfl, HOW.out⟩, HG.out⟩

set_option maxRecDepth 100000 in
set_option maxHeartbeats 12800000 in
theorem rstep4_busy (p q : Smp) (h : StepIn p q) (kind : Int) (k1 : 1 ≤ kind) (k5 : kind ≤ 5) (w : World) {S : Nat} (hS : Hid (q.t - p.t = S)) (hI : ¬ 60 < (S : Int)) :
    Calls Try.prog 145 #[.agg #[.int .i64 p.t, .int .i64 p.x, .int .i64 p.y, .int .i64 p.z, .int .i64 p.p, .int .i64 p.q, .int .i64 p.s], .agg #[.int .i64 q.t, .int .i64 q.x, .int .i64 q.y, .int .i64 q.z, .int .i64 q.p, .int .i64 q.q, .int .i64 q.s], .int .i64 kind] w fun e w' => (∃ v, e = .returned v ∧ w'.ownsRow (w.heap.size + 2) 3 1 v S (ints (stepTo kind p q S))) ∧ w.grownBy w' none := by
  obtain ⟨i0, hi, hz0, hz1, hz2⟩ := info_parts info_int
  have HI := Lib.hid hi; have HZ0 := Lib.hid hz0; have HZ1 := Lib.hid hz1; have HZ2 := Lib.hid hz2
  have HSEC0 := Lib.hid (stepN_ref k1 k5 hS.out)
  have HST := Lib.hid h
  have ht0 := h.t.p0; have ht1 := h.t.pq; have ht2 := h.t.q1
  have hip := h.ip; have hiq := h.iq; have hpz := h.pz; have hqz := h.qz
  have hsqb := sqP_bd h.ip h.iq
  have hswb := stepW_bd h.ip h.iq
  obtain ⟨R, hR, hIR⟩ := rootI_is (sqP p q)
  obtain ⟨m, hm⟩ : ∃ m : Nat, (m : Int) = sqP p q := ⟨(sqP p q).toNat, by omega⟩
  have hmt : (sqP p q).toNat = m := by omega
  rw [hmt] at hIR
  have HIR := Lib.hid hIR
  have hml : m < 9223372036854775808 := by omega
  have HML := Lib.hid hml
  have hRW : stepW p q = (R : Int) := hR
  obtain ⟨pt, px, py, pz, pp, pq, ps⟩ := p
  obtain ⟨qt, qx, qy, qz, qp, qq, qs⟩ := q
  have hsv := hS.out
  unfold inPlane at hip hiq
  simp only at ht0 ht1 ht2 hsv hip hiq hpz hqz
  have hS1 : (S : Int) ≤ 1000000 := by omega
  have hS0 : 1 ≤ (S : Int) := by omega
  have rs0 : IntKind.i64.wrap (qt - pt) = (S : Int) := by rw [hsv]; exact IntWalk.i64_in _ (by omega)
  have HGB : Hid (w.grownBy ((w.alloc (.cells #[.int .i64 pt, .int .i64 px, .int .i64 py, .int .i64 pz, .int .i64 pp, .int .i64 pq, .int .i64 ps] 181)).alloc (.cells #[.int .i64 qt, .int .i64 qx, .int .i64 qy, .int .i64 qz, .int .i64 qp, .int .i64 qq, .int .i64 qs] 181)) none) := grown_trans (World.grownBy_alloc _ _ _) (World.grownBy_alloc _ _ _)
  have HSPB : Hid (w.heap.size + 2 ≤ ((w.alloc (.cells #[.int .i64 pt, .int .i64 px, .int .i64 py, .int .i64 pz, .int .i64 pp, .int .i64 pq, .int .i64 ps] 181)).alloc (.cells #[.int .i64 qt, .int .i64 qx, .int .i64 qy, .int .i64 qz, .int .i64 qp, .int .i64 qq, .int .i64 qs] 181)).heap.size) := by show _ ≤ _; simp
  have HBPB : Hid (((w.alloc (.cells #[.int .i64 pt, .int .i64 px, .int .i64 py, .int .i64 pz, .int .i64 pp, .int .i64 pq, .int .i64 ps] 181)).alloc (.cells #[.int .i64 qt, .int .i64 qx, .int .i64 qy, .int .i64 qz, .int .i64 qp, .int .i64 qq, .int .i64 qs] 181)).heap[w.heap.size]? = some (.cells #[.int .i64 pt, .int .i64 px, .int .i64 py, .int .i64 pz, .int .i64 pp, .int .i64 pq, .int .i64 ps] 181 (0, 0))) := by
    show _ = _
    rw [Below.heap_alloc _ _ _ (by simp)]; exact heap_alloc_new w _
  clear hi hz0 hz1 hz2 hIR hmt hml h hS
  have HGOAL : Hid (lenE ⟨pt, px, py, pz, pp, pq, ps⟩ ⟨qt, qx, qy, qz, qp, qq, qs⟩ kind = if kind = 4 then (R : Int) else if kind = 5 then max 0 (qz - pz) else 0) := by
    show _ = _
    unfold lenE
    rw [hRW]
  have hn : (qx - px) * (qx - px) + (qy - py) * (qy - py) = (m : Int) := hm.symm
  obtain ⟨dx, hdx⟩ : ∃ d, qx - px = d := ⟨_, rfl⟩
  obtain ⟨dy, hdy⟩ : ∃ d, qy - py = d := ⟨_, rfl⟩
  rw [hdx, hdy] at hn
  have bx := sq_bd (a := dx) (by omega) (by omega)
  have by_ := sq_bd (a := dy) (by omega) (by omega)
  have rx : IntKind.i64.wrap (qx - px) = dx := by rw [hdx]; exact IntWalk.i64_in _ (by omega)
  have ry : IntKind.i64.wrap (qy - py) = dy := by rw [hdy]; exact IntWalk.i64_in _ (by omega)
  obtain ⟨X, hX⟩ : ∃ d, dx * dx = d := ⟨_, rfl⟩
  obtain ⟨Y, hY⟩ : ∃ d, dy * dy = d := ⟨_, rfl⟩
  rw [hX, hY] at hn
  rw [hX] at bx
  rw [hY] at by_
  have mx : IntKind.i64.wrap (dx * dx) = X := by rw [hX]; exact IntWalk.i64_in _ (by omega)
  have my : IntKind.i64.wrap (dy * dy) = Y := by rw [hY]; exact IntWalk.i64_in _ (by omega)
  have mz : IntKind.i64.wrap (X + Y) = (m : Int) := by rw [hn]; exact IntWalk.i64_in _ (by omega)
  have wdz : IntKind.i64.wrap (qz - pz) = qz - pz := IntWalk.i64_in _ (by omega)
  have hR3 : (R : Int) ≤ 300000000 := by rw [← hRW]; exact hswb.2
  have HR3 := Lib.hid hR3
  have HZB : Hid ((-100000 ≤ pz ∧ pz ≤ 100000) ∧ -100000 ≤ qz ∧ qz ≤ 100000) := ⟨hpz, hqz⟩
  clear hdx hdy hX hY hn hm hR hRW hsqb hswb hsv hip hiq hR3 bx by_ hpz hqz
  go_enter Try.func145, Try.ntmps145
  go_upto_block 0 with (fail)
  go_cut [9] (fun s9 wx => ∃ len : Int, s9 = .int .i64 len ∧ 0 ≤ len ∧ len ≤ 300000000 ∧ Hid (lenE ⟨pt, px, py, pz, pp, pq, ps⟩ ⟨qt, qx, qy, qz, qp, qq, qs⟩ kind = len) ∧ Hid (w.grownBy wx none) ∧ Hid (w.heap.size + 2 ≤ wx.heap.size) ∧ Hid (wx.heap[w.heap.size]? = some (.cells #[.int .i64 pt, .int .i64 px, .int .i64 py, .int .i64 pz, .int .i64 pp, .int .i64 pq, .int .i64 ps] 181 (0, 0))))
  case first =>
    by_cases e4 : kind = 4
    · have q4 : (kind == 4) = true := by simpa using e4
      have HL : Hid (lenE ⟨pt, px, py, pz, pp, pq, ps⟩ ⟨qt, qx, qy, qz, qp, qq, qs⟩ kind = (R : Int)) := by show _ = _; rw [HGOAL.out, if_pos e4]
      clear e4 HGOAL
      go_wp2_with fail
      refine (eroot_any m R HML.out HIR _).mono ?_; rintro e w1 ⟨rfl, rfl⟩
      go_wp2_with fail
      go_meet
      exact ⟨_, rfl, by omega, HR3.out, HL.out, HGB.out, HSPB.out, HBPB.out⟩
    · have q4 : (kind == 4) = false := by simpa using e4
      by_cases e5 : kind = 5
      · have q5 : (kind == 5) = true := by simpa using e5
        have HL : Hid (lenE ⟨pt, px, py, pz, pp, pq, ps⟩ ⟨qt, qx, qy, qz, qp, qq, qs⟩ kind = max 0 (qz - pz)) := by show _ = _; rw [HGOAL.out, if_neg e4, if_pos e5]
        clear e4 e5 HGOAL rx ry mx my mz
        go_wp2_with fail
        all_goals
          go_meet
          refine ⟨_, rfl, ?_, ?_, ?_, HGB.out, HSPB.out, HBPB.out⟩
          · have := HZB.out; omega
          · have := HZB.out; omega
          · show _ = _; rw [HL.out]; omega
      · have q5 : (kind == 5) = false := by simpa using e5
        have HL : Hid (lenE ⟨pt, px, py, pz, pp, pq, ps⟩ ⟨qt, qx, qy, qz, qp, qq, qs⟩ kind = 0) := by show _ = _; rw [HGOAL.out, if_neg e4, if_neg e5]
        clear e4 e5 HGOAL rx ry mx my mz
        go_wp2_with fail
        go_meet
        exact ⟨_, rfl, by omega, by omega, HL.out, HGB.out, HSPB.out, HBPB.out⟩
  case rest =>
    obtain ⟨len, rfl, l0, l1, hln, hgB, hspB, hbpB⟩ := hcut
    have HSEC : Hid (∀ j : Nat, stepN kind ⟨pt, px, py, pz, pp, pq, ps⟩ ⟨qt, qx, qy, qz, qp, qq, qs⟩ j = if 4 ≤ kind then (if 60 < (S : Int) then 0 else (len * ((j : Int) + 1)).tdiv S - (len * (j : Int)).tdiv S) else if 60 < (S : Int) then -1 else mesE ⟨pt, px, py, pz, pp, pq, ps⟩ kind) := by
      have e := HSEC0.out
      rw [hln.out] at e
      exact e
    replace HGB := Lib.hid hgB.out; replace HSPB := Lib.hid hspB.out; replace HBPB := Lib.hid hbpB.out
    clear hln hgB hspB hbpB HSEC0 rx ry mx my mz wdz
    go_wp2_with fail
    go_loopw [10, 56] (fun lv iv wr => ∃ (k : Nat) (u : Value), u = lv ∧ iv = .int .i64 k ∧ k ≤ S ∧ Hid (wr.ownsRow (w.heap.size + 2) 3 1 u k (ints (stepTo kind ⟨pt, px, py, pz, pp, pq, ps⟩ ⟨qt, qx, qy, qz, qp, qq, qs⟩ k))) ∧ Hid (w.grownBy wr none) ∧ Hid (w.heap.size + 2 ≤ wr.heap.size) ∧ Hid (wr.heap[w.heap.size]? = some (.cells #[.int .i64 pt, .int .i64 px, .int .i64 py, .int .i64 pz, .int .i64 pp, .int .i64 pq, .int .i64 ps] 181 (0, 0))))
      (fun _ iv _ => S - (intOf iv).toNat)
    case atStart => exact ⟨0, _, rfl, rfl, Nat.zero_le _, World.ownsRow_nil _ _ _ _, HGB.out, HSPB.out, HBPB.out⟩
    case round =>
      obtain ⟨k, u, rfl, rfl, hk, hown, hg, hsp, hbp⟩ := hrel
      by_cases hlt : k < S
      · have hki : (k : Int) < (S : Int) := by omega
        have hb := hbp.out
        have d0 : wr.cell? ⟨w.heap.size, 0, none⟩ = some (.int .i64 pt) := by simp [World.cell?, hb]
        have d1 : wr.cell? ⟨w.heap.size, 1, none⟩ = some (.int .i64 px) := by simp [World.cell?, hb]
        have d2 : wr.cell? ⟨w.heap.size, 2, none⟩ = some (.int .i64 py) := by simp [World.cell?, hb]
        have d3 : wr.cell? ⟨w.heap.size, 3, none⟩ = some (.int .i64 pz) := by simp [World.cell?, hb]
        have d4 : wr.cell? ⟨w.heap.size, 4, none⟩ = some (.int .i64 pp) := by simp [World.cell?, hb]
        have d5 : wr.cell? ⟨w.heap.size, 5, none⟩ = some (.int .i64 pq) := by simp [World.cell?, hb]
        have d6 : wr.cell? ⟨w.heap.size, 6, none⟩ = some (.int .i64 ps) := by simp [World.cell?, hb]
        clear hb
        obtain ⟨mv, hmv⟩ : ∃ v, mesE ⟨pt, px, py, pz, pp, pq, ps⟩ kind = v := ⟨_, rfl⟩
        have HMV := Lib.hid hmv
        clear hmv
        go_wp2_with fail
        refine (valueOf_is ⟨pt, px, py, pz, pp, pq, ps⟩ kind _ HMV).mono ?_; rintro e w1 ⟨rfl, hg1⟩
        by_cases h4 : 4 ≤ kind
        · have t0 := mul_bd2 l0 l1 (by omega : (0 : Int) ≤ (k : Int) + 1) (by omega : (k : Int) + 1 ≤ 1000000)
          have t1 := mul_bd2 l0 l1 (by omega : (0 : Int) ≤ (k : Int)) (by omega : (k : Int) ≤ 1000000)
          obtain ⟨X, hX⟩ : ∃ X, len * ((k : Int) + 1) = X := ⟨_, rfl⟩
          obtain ⟨Y, hY⟩ : ∃ Y, len * (k : Int) = Y := ⟨_, rfl⟩
          rw [hX] at t0; rw [hY] at t1
          have u0 := tdiv_bd t0.1 (by omega : 1 ≤ (S : Int))
          have u1 := tdiv_bd t1.1 (by omega : 1 ≤ (S : Int))
          have rk : IntKind.i64.wrap ((k : Int) + 1) = (k : Int) + 1 := IntWalk.i64_in _ (by omega)
          have rx : IntKind.i64.wrap (len * ((k : Int) + 1)) = X := by rw [hX]; exact IntWalk.i64_in _ (by omega)
          have ry : IntKind.i64.wrap (len * (k : Int)) = Y := by rw [hY]; exact IntWalk.i64_in _ (by omega)
          have wx : IntKind.i64.wrap (X.tdiv (S : Int)) = X.tdiv (S : Int) := IntWalk.i64_in _ (by omega)
          have wy : IntKind.i64.wrap (Y.tdiv (S : Int)) = Y.tdiv (S : Int) := IntWalk.i64_in _ (by omega)
          obtain ⟨Z, hZ⟩ : ∃ Z, X.tdiv (S : Int) - Y.tdiv (S : Int) = Z := ⟨_, rfl⟩
          have wz : IntKind.i64.wrap (X.tdiv (S : Int) - Y.tdiv (S : Int)) = Z := by rw [hZ]; exact IntWalk.i64_in _ (by omega)
          have hne0 : ¬ (S : Int) = 0 := by omega
          have hne1 : ((S : Int) == 0) = false := by rw [beq_eq_false_iff_ne]; omega
          have hval : stepN kind ⟨pt, px, py, pz, pp, pq, ps⟩ ⟨qt, qx, qy, qz, qp, qq, qs⟩ k = if 60 < (S : Int) then 0 else Z := by
            have := HSEC.out k
            rw [this, if_pos h4, ← hZ, ← hX, ← hY]
          clear hX hY t0 t1 u0 u1
          have HVAL : Hid (stepN kind ⟨pt, px, py, pz, pp, pq, ps⟩ ⟨qt, qx, qy, qz, qp, qq, qs⟩ k = Z) := by show _ = _; rw [hval, if_neg (by omega)]
          clear hval hZ
          have hi := HI.out; have hz0 := HZ0.out; have hz1 := HZ1.out; have hz2 := HZ2.out
          have OWN := Lib.hid (hown.out.kept hg1 (Classical.em _))
          have HGA : Hid (w.grownBy w1 none) := grown_trans hg.out hg1
          have HSP : Hid (w.heap.size + 2 ≤ w1.heap.size) := Nat.le_trans hsp.out hg1.size
          have HBP : Hid (w1.heap[w.heap.size]? = some (.cells #[.int .i64 pt, .int .i64 px, .int .i64 py, .int .i64 pz, .int .i64 pp, .int .i64 pq, .int .i64 ps] 181 (0, 0))) := (hg1.block _ (Array.getElem?_eq_some_iff.1 hbp.out).1 (by simp)).trans hbp.out
          clear hg1 hown hg hbp d0 d1 d2 d3 d4 d5 d6
          go_wp2_with fail
          go_quiet (fail)
          obtain ⟨W, hWq⟩ : ∃ W, W = w1.drewN nq := ⟨_, rfl⟩
          rw [← hWq]
          replace OWN : Hid (W.ownsRow (w.heap.size + 2) 3 1 u k (ints (stepTo kind ⟨pt, px, py, pz, pp, pq, ps⟩ ⟨qt, qx, qy, qz, qp, qq, qs⟩ k))) := by rw [hWq]; exact OWN.out
          replace HGA : Hid (w.grownBy W none) := by rw [hWq]; exact grown_trans HGA.out (grown_drewN _ _ _)
          replace HSP : Hid (w.heap.size + 2 ≤ W.heap.size) := by rw [hWq]; exact HSP.out
          replace HBP : Hid (W.heap[w.heap.size]? = some (.cells #[.int .i64 pt, .int .i64 px, .int .i64 py, .int .i64 pz, .int .i64 pp, .int .i64 pq, .int .i64 ps] 181 (0, 0))) := by rw [hWq]; exact HBP.out
          clear hWq
          go_wp2_with (at_builtin; refine wpList_append_own _ rfl _ _ 22 rfl (w.heap.size + 2) 3 i0 (.int .i64 0) 1 8 Try.underlying22 hi hz0 hz1 hz2 rfl (by decide) _ _ _ rfl (OWN.out.alloc _) ⟨W.heap.size, 0, none⟩ 1 1 [.int .i64 (Z)] rfl rfl (cell_one_new _ (.int .i64 (Z)) 3) (by intro u hu; simp at hu; subst hu; rfl) (by unfold maxLen; omega) (by omega) (by have := HSP.out; simp; omega) ?_; intro v' w3 hown' hgrow' _)
          have HOW2 : Hid (w3.ownsRow (w.heap.size + 2) 3 1 v' (k + 1) (ints (stepTo kind ⟨pt, px, py, pz, pp, pq, ps⟩ ⟨qt, qx, qy, qz, qp, qq, qs⟩ (k + 1)))) := by
            show World.ownsRow _ _ _ _ _ _ _; rw [stepTo_succ, ints_snoc, HVAL.out]; exact hown'
          have HG2 : Hid (w.grownBy w3 none) := grown_own HGA.out (g := ⟨hgrow'.os, hgrow'.tape, hgrow'.output, hgrow'.size, hgrow'.block⟩) (fun g e => by have := (OWN.out.lt g e).1; omega)
          have HSP2 : Hid (w.heap.size + 2 ≤ w3.heap.size) := by show _ ≤ _; have := hgrow'.size; have := HSP.out; simp at *; omega
          have HBP2 : Hid (w3.heap[w.heap.size]? = some (.cells #[.int .i64 pt, .int .i64 px, .int .i64 py, .int .i64 pz, .int .i64 pp, .int .i64 pq, .int .i64 ps] 181 (0, 0))) := by
            show _ = _
            rw [hgrow'.block _ (by have := HSP.out; simp; omega) (fun e => by have := (OWN.out.lt _ e.symm).1; omega), Below.heap_alloc _ _ _ (by have := HSP.out; show _ < W.heap.size; omega)]; exact HBP.out
          clear hown' hgrow' hi hz0 hz1 hz2 OWN HGA HSP HBP
          go_wp2_with fail
          go_roundw
          case rel => exact ⟨k + 1, _, rfl, by go_num, by omega, HOW2.out, HG2.out, HSP2.out, HBP2.out⟩
          case measure => simp [intOf]; omega
        · have hval : stepN kind ⟨pt, px, py, pz, pp, pq, ps⟩ ⟨qt, qx, qy, qz, qp, qq, qs⟩ k = if 60 < (S : Int) then -1 else mv := by
            have := HSEC.out k
            rw [this, if_neg h4, HMV.out]
          have HVAL : Hid (stepN kind ⟨pt, px, py, pz, pp, pq, ps⟩ ⟨qt, qx, qy, qz, qp, qq, qs⟩ k = mv) := by show _ = _; rw [hval, if_neg (by omega)]
          clear hval
          have hi := HI.out; have hz0 := HZ0.out; have hz1 := HZ1.out; have hz2 := HZ2.out
          have OWN := Lib.hid (hown.out.kept hg1 (Classical.em _))
          have HGA : Hid (w.grownBy w1 none) := grown_trans hg.out hg1
          have HSP : Hid (w.heap.size + 2 ≤ w1.heap.size) := Nat.le_trans hsp.out hg1.size
          have HBP : Hid (w1.heap[w.heap.size]? = some (.cells #[.int .i64 pt, .int .i64 px, .int .i64 py, .int .i64 pz, .int .i64 pp, .int .i64 pq, .int .i64 ps] 181 (0, 0))) := (hg1.block _ (Array.getElem?_eq_some_iff.1 hbp.out).1 (by simp)).trans hbp.out
          clear hg1 hown hg hbp d0 d1 d2 d3 d4 d5 d6
          go_wp2_with (at_builtin; refine wpList_append_own _ rfl _ _ 22 rfl (w.heap.size + 2) 3 i0 (.int .i64 0) 1 8 Try.underlying22 hi hz0 hz1 hz2 rfl (by decide) _ _ _ rfl (OWN.out.alloc _) ⟨w1.heap.size, 0, none⟩ 1 1 [.int .i64 (mv)] rfl rfl (cell_one_new _ (.int .i64 (mv)) 3) (by intro u hu; simp at hu; subst hu; rfl) (by unfold maxLen; omega) (by omega) (by have := HSP.out; simp; omega) ?_; intro v' w3 hown' hgrow' _)
          have HOW2 : Hid (w3.ownsRow (w.heap.size + 2) 3 1 v' (k + 1) (ints (stepTo kind ⟨pt, px, py, pz, pp, pq, ps⟩ ⟨qt, qx, qy, qz, qp, qq, qs⟩ (k + 1)))) := by
            show World.ownsRow _ _ _ _ _ _ _; rw [stepTo_succ, ints_snoc, HVAL.out]; exact hown'
          have HG2 : Hid (w.grownBy w3 none) := grown_own HGA.out (g := ⟨hgrow'.os, hgrow'.tape, hgrow'.output, hgrow'.size, hgrow'.block⟩) (fun g e => by have := (OWN.out.lt g e).1; omega)
          have HSP2 : Hid (w.heap.size + 2 ≤ w3.heap.size) := by show _ ≤ _; have := hgrow'.size; have := HSP.out; simp at *; omega
          have HBP2 : Hid (w3.heap[w.heap.size]? = some (.cells #[.int .i64 pt, .int .i64 px, .int .i64 py, .int .i64 pz, .int .i64 pp, .int .i64 pq, .int .i64 ps] 181 (0, 0))) := by
            show _ = _
            rw [hgrow'.block _ (by have := HSP.out; simp; omega) (fun e => by have := (OWN.out.lt _ e.symm).1; omega), Below.heap_alloc _ _ _ (by have := HSP.out; show _ < w1.heap.size; omega)]; exact HBP.out
          clear hown' hgrow' hi hz0 hz1 hz2 OWN HGA HSP HBP
          go_wp2_with fail
          go_roundw
          case rel => exact ⟨k + 1, _, rfl, by go_num, by omega, HOW2.out, HG2.out, HSP2.out, HBP2.out⟩
          case measure => simp [intOf]; omega
      · have hks : k = S := by omega
        subst hks
        have HOW := Lib.hid hown.out
        have HG := Lib.hid hg.out
        clear hown hg hbp hsp
        go_wp2_with fail
        go_ret
        exact ⟨⟨_, rfl, HOW.out⟩, HG.out⟩


theorem rstep4_any (p q : Smp) (h : StepIn p q) (kind : Int) (k1 : 1 ≤ kind) (k5 : kind ≤ 5) (w : World) {S : Nat} (hS : Hid (q.t - p.t = S)) :
    Calls Try.prog 145 #[.agg #[.int .i64 p.t, .int .i64 p.x, .int .i64 p.y, .int .i64 p.z, .int .i64 p.p, .int .i64 p.q, .int .i64 p.s], .agg #[.int .i64 q.t, .int .i64 q.x, .int .i64 q.y, .int .i64 q.z, .int .i64 q.p, .int .i64 q.q, .int .i64 q.s], .int .i64 kind] w fun e w' => (∃ v, e = .returned v ∧ w'.ownsRow (w.heap.size + 2) 3 1 v S (ints (stepTo kind p q S))) ∧ w.grownBy w' none := by
  by_cases hI : 60 < (S : Int)
  · exact rstep4_idle p q h kind k1 k5 w hS hI
  · exact rstep4_busy p q h kind k1 k5 w hS hI

end Go.Proofs.Ytmfnphknoclhfaa
