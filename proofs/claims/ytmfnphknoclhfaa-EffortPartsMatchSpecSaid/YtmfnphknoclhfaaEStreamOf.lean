/- The contract of streamOf. -/
import Derived.Test.YtmfnphknoclhfaaEApp
import Derived.Test.YtmfnphknoclhfaaTChk
import Derived.Deep.RegionHeld3
import Derived.Deep.CutBlock
import Derived.Deep.DeepCutAuto
import Derived.Laws.MakeOwn
namespace Go.Proofs.Ytmfnphknoclhfaa
open Go.RowKit

theorem grown_low {w w1 w2 : World} {row : Option Nat} (h : w.grownBy w1 none) (g : w1.grownBy w2 row) (hr : ∀ k, row = some k → w.heap.size ≤ k) : w.grownBy w2 none :=
  ⟨g.os.trans h.os, g.tape.trans h.tape, g.output.trans h.output, Nat.le_trans h.size g.size, fun k hk _ => (g.block k (Nat.lt_of_lt_of_le hk h.size) (fun e => by have := hr k e.symm; omega)).trans (h.block k hk (by simp))⟩
theorem stepS_vals {kind : Int} (hk : ¬ 4 ≤ kind) (p q : Smp) : stepS kind p q = List.replicate (q.t - p.t).toNat (valE p q kind) := by
  unfold stepS stepTo
  have e : stepN kind p q = fun _ => valE p q kind := by funext j; unfold stepN; rw [if_neg hk]
  rw [e]
  exact List.eq_replicate_iff.2 ⟨by simp, fun x hx => by obtain ⟨_, _, h⟩ := List.mem_map.1 hx; exact h.symm⟩
theorem stepS_shares {kind : Int} (hk : 4 ≤ kind) (p q : Smp) : stepS kind p q = shares (amtE p q kind) (q.t - p.t) (q.t - p.t).toNat := by
  unfold stepS stepTo shares
  refine List.map_congr_left (fun j _ => ?_)
  unfold stepN shareN
  rw [if_pos hk]
  rfl
theorem span_bd {ss : List Smp} (h : SOk ss) : ∃ c : Nat, spanL ss = c ∧ c ≤ 1000000 := by
  rcases Nat.eq_zero_or_pos ss.length with h0 | h0
  · have : ss = [] := List.eq_nil_of_length_eq_zero h0
    subst this
    exact ⟨0, rfl, by omega⟩
  · obtain ⟨n, hn⟩ : ∃ n, ss.length = n + 1 := ⟨ss.length - 1, by omega⟩
    have e := spanL_at hn
    have q := h.inn n (by omega)
    rw [← smpD_at (by omega : n < ss.length)] at e
    exact ⟨(spanL ss).toNat, by omega, by omega⟩

set_option maxRecDepth 100000 in
set_option maxHeartbeats 6400000 in
theorem streamOf_any (nm : ByteArray) (sp st : Int) (so : Option Addr) (sc : Nat) (ss : List Smp) (lo : Option Addr) (lc : Nat) (ls : List LapV) (to_ : Option Addr) (tc : Nat) (ts : List ByteArray) (kind : Int) (k1 : 1 ≤ kind) (k5 : kind ≤ 5) (w : World)
    (HA : Hid (ActAt w ⟨nm, sp, st, so, sc, ss, lo, lc, ls, to_, tc, ts⟩)) (HS : Hid (SOk ss)) :
    Calls Try.prog 124 #[.agg #[.string nm, .int .i64 sp, .int .i64 st, .slice so ss.length sc, .slice lo ls.length lc, .slice to_ ts.length tc], .int .i64 kind] w fun e w' => (∃ v, e = .returned v ∧ w'.ownsRow (w.heap.size + 1) 3 1 v (streamS kind ss).length (ints (streamS kind ss))) ∧ w.grownBy w' none := by
  obtain ⟨c, hc, hc1⟩ := span_bd HS.out
  have HC := Lib.hid hc
  have hlen0 := HS.out.len
  obtain ⟨i0, hi, hz0, hz1, hz2⟩ := info_parts info_int
  have hmk : ∀ W : World, (Instr.makeSlice 22 (.int .i64 0) (.int .i64 (c : Int))).run Try.prog W = .ok (.slice (some ⟨W.heap.size, 0, none⟩) 0 c) (W.alloc (.cells (madeCells #[.int .i64 0] c) 3)) := fun W => by
    have hr := run_make (P := Try.prog) W 22 3 i0 (.int .i64 0) Try.underlying22 hi hz0 .i64 .i64 0 c (Int.le_refl _) (by omega) (by rw [hz2]; omega) (by omega)
    simp only [Int.toNat_zero, Int.toNat_natCast, hz1, Nat.mul_one] at hr
    exact hr
  clear hc hi hz0 hz1 hz2
  go_enter Try.func124, Try.ntmps124
  go_wp2_with fail
  refine (span_any ⟨nm, sp, st, so, sc, ss, lo, lc, ls, to_, tc, ts⟩ HA.out.sl _ (HA.out.grown (World.grownBy_alloc _ _ _)).hs HC).mono ?_; rintro e w1 ⟨rfl, hg1⟩
  have G1 : w.grownBy w1 none := grown_trans (World.grownBy_alloc w (.cells #[.string nm, .int .i64 sp, .int .i64 st, .slice so ss.length sc, .slice lo ls.length lc, .slice to_ ts.length tc] 42) none) hg1
  have b3 : w1.cell? ⟨w.heap.size, 3, none⟩ = some (.slice so ss.length sc) := grown_cell hg1 (by go_simp)
  have hsz1 : w.heap.size + 1 ≤ w1.heap.size := by have := hg1.size; simpa using this
  have HO0 : Hid ((w1.alloc (.cells (madeCells #[.int .i64 0] c) 3)).ownsRow (w.heap.size + 1) 3 1 (.slice (some ⟨w1.heap.size, 0, none⟩) 0 c) 0 []) :=
    World.ownsRow_made w1 (madeCells #[.int .i64 0] c) c hsz1 (by unfold maxLen; omega) (by have := size_madeCells #[Value.int .i64 0] c; simpa using this)
  have HG0 : Hid (w.grownBy (w1.alloc (.cells (madeCells #[.int .i64 0] c) 3)) none) := grown_trans G1 (World.grownBy_alloc _ _ _)
  have HA30 : Hid ((w1.alloc (.cells (madeCells #[.int .i64 0] c) 3)).cell? ⟨w.heap.size, 3, none⟩ = some (.slice so ss.length sc)) := grown_cell (World.grownBy_alloc _ _ _) b3
  have HSZ1 := Lib.hid hsz1
  clear hg1 G1 b3 hsz1
  go_wp2_with fail
  clear hmk
  go_loopw [5, 6] (fun lv iv wr => ∃ (k m : Nat) (u : Value), u = lv ∧ iv = .int .i64 m ∧ Hid (m = k + 1) ∧ Hid (k ≤ ss.length - 1) ∧ Hid (wr.ownsRow (w.heap.size + 1) 3 1 u (strL kind ss k).length (ints (strL kind ss k))) ∧ Hid (w.grownBy wr none) ∧ Hid (wr.cell? ⟨w.heap.size, 3, none⟩ = some (.slice so ss.length sc)))
    (fun _ iv _ => ss.length - (intOf iv).toNat)
  case atStart => exact ⟨0, 1, _, rfl, rfl, rfl, Nat.zero_le _, HO0.out, HG0.out, HA30.out⟩
  case round =>
    obtain ⟨k, m, u, rfl, rfl, hmk, hk, hown, hg, hbx⟩ := hrel
    have a3 := hbx.out
    by_cases hlt : m < ss.length
    · have hlt2 : m ≤ ss.length - 1 := by omega
      obtain ⟨b, off, rfl⟩ : ∃ b off, so = some ⟨b, off, none⟩ := by
        have hne : ss ≠ [] := fun h => by rw [h] at hlt; simp at hlt
        have hS := (HA.out).hs
        cases so with
        | none => exact absurd (hS.nil rfl) hne
        | some p =>
          obtain ⟨b, off, spot⟩ := p
          have hsp := hS.spot _ rfl hne
          simp only at hsp
          subst hsp
          exact ⟨b, off, rfl⟩
      have em : (m : Int) - 1 = (k : Int) := by have := hmk.out; omega
      have rk : IntKind.i64.wrap (k : Int) = (k : Int) := IntWalk.i64_in _ (by have := hmk.out; omega)
      have hkl : k < ss.length := by have := hmk.out; omega
      have hkl2 : (k : Int) < (ss.length : Int) := by omega
      have hk1 : k + 1 < ss.length := by have := hmk.out; omega
      obtain ⟨p0, p1, p2, p3, p4, p5, p6⟩ := (HA.out.grown hg.out).hs.cells _ rfl k hkl
      obtain ⟨q0, q1, q2, q3, q4, q5, q6⟩ := (HA.out.grown hg.out).hs.cells _ rfl m hlt
      rw [← smpD_at hkl] at p0 p1 p2 p3 p4 p5 p6
      rw [← smpD_at hlt] at q0 q1 q2 q3 q4 q5 q6
      simp only at p0 p1 p2 p3 p4 p5 p6 q0 q1 q2 q3 q4 q5 q6
      have hst : StepIn (smpD ss k) (smpD ss m) := by rw [hmk.out]; exact HS.out.stepIn hk1
      have hln := strL_len (kind := kind) HS.out k hkl
      have hls : strL kind ss (k + 1) = strL kind ss k ++ stepS kind (smpD ss k) (smpD ss m) := by rw [hmk.out]; rfl
      have hAb := amtE_bd hst kind
      have hlen : ((strL kind ss k).length : Int) + ((smpD ss m).t - (smpD ss k).t) ≤ 1000000 := by
        have := (HS.out.inn m hlt).2.1; omega
      have HST := Lib.hid hst; have HLS := Lib.hid hls; have HMK := Lib.hid hmk.out; have HAB := Lib.hid hAb; have HLEN := Lib.hid hlen
      clear hst hln hls hk1 hAb hlen hmk
      generalize smpD ss k = P at *
      generalize smpD ss m = Q at *
      obtain ⟨pt, px, py, pz, pp, pq, ps⟩ := P
      obtain ⟨qt, qx, qy, qz, qp, qq, qs⟩ := Q
      simp only at p0 p1 p2 p3 p4 p5 p6 q0 q1 q2 q3 q4 q5 q6
      have hlen := HLEN.out
      simp only at hlen
      have ht0 := HST.out.t.p0; have ht1 := HST.out.t.pq; have ht2 := HST.out.t.q1
      simp only at ht0 ht1 ht2
      have A3 := Lib.hid a3
      have P0 := Lib.hid p0; have P1 := Lib.hid p1; have P2 := Lib.hid p2; have P3 := Lib.hid p3; have P4 := Lib.hid p4; have P5 := Lib.hid p5; have P6 := Lib.hid p6
      have R0 := Lib.hid q0; have R1 := Lib.hid q1; have R2 := Lib.hid q2; have R3 := Lib.hid q3; have R4 := Lib.hid q4; have R5 := Lib.hid q5; have R6 := Lib.hid q6
      have HLW : Hid (w.heap.size < wr.heap.size) := lt_of_cell a3
      have HGR := Lib.hid hg.out
      have HBWR : Hid (w.heap.size + 1 ≤ wr.heap.size) := by show _ ≤ _; have := HLW.out; omega
      clear p0 p1 p2 p3 p4 p5 p6 q0 q1 q2 q3 q4 q5 q6 hg hbx
      go_upto_region 5 with (fail)
      go_cut [7] (fun s7 wx => ∃ B, s7 = .pointer (some ⟨B, 0, none⟩) ∧ wr.grownBy wx none ∧ wr.heap.size ≤ B ∧ wx.heap[B]? = some (.cells #[.int .i64 pt, .int .i64 px, .int .i64 py, .int .i64 pz, .int .i64 pp, .int .i64 pq, .int .i64 ps, .int .i64 qt, .int .i64 qx, .int .i64 qy, .int .i64 qz, .int .i64 qp, .int .i64 qq, .int .i64 qs] 188 (0, 0)))
      case first =>
        clear a3
        refine wp_region_noPanic ?_
        refine wp_region_held_drew (S := fun W => wr.grownBy W none) (by kernel_rfl) (grown_drewN wr none 1) (fun hHeld => ?_)
        refine wpAnyH_take (i := 0) (v := .pointer (some ⟨w.heap.size, 3, none⟩)) rfl (by kernel_rfl) (by kernel_rfl) (by kernel_rfl) (fun _ _ _ h => h) (Or.inl ⟨by rfl, fun V hV => ?_⟩) (by assumption) ?_
        · clear hV
          clear hHeld
          go_simp
        simp only [Go.Act.put, List.setIfInBounds_toArray, List.set_cons_zero, List.set_cons_succ]
        refine wpAnyH_take (i := 1) (v := .slice (some ⟨b, off, none⟩) ss.length sc) rfl (by kernel_rfl) (by kernel_rfl) (by kernel_rfl) (fun _ _ _ h => h) (Or.inl ⟨by rfl, fun V hV => ?_⟩) (by assumption) ?_
        · have v3 := grown_cell hV A3.out; clear hV
          clear hHeld
          go_simp
        simp only [Go.Act.put, List.setIfInBounds_toArray, List.set_cons_zero, List.set_cons_succ]
        refine wpAnyH_take (i := 2) (v := .int .i64 (m : Int)) rfl (by kernel_rfl) (by kernel_rfl) (by kernel_rfl) (fun _ _ _ h => h) (Or.inl ⟨by rfl, fun V hV => ?_⟩) (by assumption) ?_
        · clear hV
          clear hHeld
          go_simp
        simp only [Go.Act.put, List.setIfInBounds_toArray, List.set_cons_zero, List.set_cons_succ]
        refine wpAnyH_take (i := 3) (v := .int .i64 (k : Int)) rfl (by kernel_rfl) (by kernel_rfl) (by kernel_rfl) (fun _ _ _ h => h) (Or.inl ⟨by rfl, fun V hV => ?_⟩) (by assumption) ?_
        · clear hV
          clear hHeld
          go_simp
        simp only [Go.Act.put, List.setIfInBounds_toArray, List.set_cons_zero, List.set_cons_succ]
        refine wpAnyH_take (i := 4) (v := .pointer (some ⟨b, off + k * 7, none⟩)) rfl (by kernel_rfl) (by kernel_rfl) (by kernel_rfl) (fun _ _ _ h => h) (Or.inl ⟨by rfl, fun V hV => ?_⟩) (by assumption) ?_
        · clear hV
          clear hHeld
          go_simp
        simp only [Go.Act.put, List.setIfInBounds_toArray, List.set_cons_zero, List.set_cons_succ]
        refine wpAnyH_take (i := 5) (v := .agg #[.int .i64 pt, .int .i64 px, .int .i64 py, .int .i64 pz, .int .i64 pp, .int .i64 pq, .int .i64 ps]) rfl (by kernel_rfl) (by kernel_rfl) (by kernel_rfl) (fun _ _ _ h => h) (Or.inl ⟨by rfl, fun V hV => ?_⟩) (by assumption) ?_
        · have r0 := grown_cell hV P0.out; have r1 := grown_cell hV P1.out; have r2 := grown_cell hV P2.out; have r3 := grown_cell hV P3.out; have r4 := grown_cell hV P4.out; have r5 := grown_cell hV P5.out; have r6 := grown_cell hV P6.out; clear hV
          clear hHeld
          go_simp
        simp only [Go.Act.put, List.setIfInBounds_toArray, List.set_cons_zero, List.set_cons_succ]
        refine wpAnyH_take (i := 6) (v := .pointer (some ⟨w.heap.size, 3, none⟩)) rfl (by kernel_rfl) (by kernel_rfl) (by kernel_rfl) (fun _ _ _ h => h) (Or.inl ⟨by rfl, fun V hV => ?_⟩) (by assumption) ?_
        · clear hV
          clear hHeld
          go_simp
        simp only [Go.Act.put, List.setIfInBounds_toArray, List.set_cons_zero, List.set_cons_succ]
        refine wpAnyH_take (i := 7) (v := .slice (some ⟨b, off, none⟩) ss.length sc) rfl (by kernel_rfl) (by kernel_rfl) (by kernel_rfl) (fun _ _ _ h => h) (Or.inl ⟨by rfl, fun V hV => ?_⟩) (by assumption) ?_
        · have v3 := grown_cell hV A3.out; clear hV
          clear hHeld
          go_simp
        simp only [Go.Act.put, List.setIfInBounds_toArray, List.set_cons_zero, List.set_cons_succ]
        refine wpAnyH_take (i := 8) (v := .int .i64 (m : Int)) rfl (by kernel_rfl) (by kernel_rfl) (by kernel_rfl) (fun _ _ _ h => h) (Or.inl ⟨by rfl, fun V hV => ?_⟩) (by assumption) ?_
        · clear hV
          clear hHeld
          go_simp
        simp only [Go.Act.put, List.setIfInBounds_toArray, List.set_cons_zero, List.set_cons_succ]
        refine wpAnyH_take (i := 9) (v := .pointer (some ⟨b, off + m * 7, none⟩)) rfl (by kernel_rfl) (by kernel_rfl) (by kernel_rfl) (fun _ _ _ h => h) (Or.inl ⟨by rfl, fun V hV => ?_⟩) (by assumption) ?_
        · clear hV
          clear hHeld
          go_simp
        simp only [Go.Act.put, List.setIfInBounds_toArray, List.set_cons_zero, List.set_cons_succ]
        refine wpAnyH_take (i := 10) (v := .agg #[.int .i64 qt, .int .i64 qx, .int .i64 qy, .int .i64 qz, .int .i64 qp, .int .i64 qq, .int .i64 qs]) rfl (by kernel_rfl) (by kernel_rfl) (by kernel_rfl) (fun _ _ _ h => h) (Or.inl ⟨by rfl, fun V hV => ?_⟩) (by assumption) ?_
        · have r0 := grown_cell hV R0.out; have r1 := grown_cell hV R1.out; have r2 := grown_cell hV R2.out; have r3 := grown_cell hV R3.out; have r4 := grown_cell hV R4.out; have r5 := grown_cell hV R5.out; have r6 := grown_cell hV R6.out; clear hV
          clear hHeld
          go_simp
        simp only [Go.Act.put, List.setIfInBounds_toArray, List.set_cons_zero, List.set_cons_succ]
        refine wpAnyH_take (i := 11) (v := .agg #[.int .i64 pt, .int .i64 px, .int .i64 py, .int .i64 pz, .int .i64 pp, .int .i64 pq, .int .i64 ps, .int .i64 qt, .int .i64 qx, .int .i64 qy, .int .i64 qz, .int .i64 qp, .int .i64 qq, .int .i64 qs]) rfl (by kernel_rfl) (by kernel_rfl) (by kernel_rfl) (fun _ _ _ h => h) (Or.inl ⟨by rfl, fun V hV => ?_⟩) (by assumption) ?_
        · clear hV
          clear hHeld
          go_simp
        simp only [Go.Act.put, List.setIfInBounds_toArray, List.set_cons_zero, List.set_cons_succ]
        refine wpAnyH_ready (rs := [12]) (by kernel_rfl) (by simp) ?_
        refine AllReadyH.cons rfl (fun K hK => ?_) AllReadyH.nil
        go_simp
        refine hK.out _ _ (grown_trans (World.grownBy_alloc wr (.cells #[.int .i64 0, .int .i64 0, .int .i64 0, .int .i64 0, .int .i64 0, .int .i64 0, .int .i64 0, .int .i64 0, .int .i64 0, .int .i64 0, .int .i64 0, .int .i64 0, .int .i64 0, .int .i64 0] 188) none) (grown_drewN _ _ 1)) (fun hHeld => ?_)
        clear hK K
        try simp only [Go.Act.put, List.setIfInBounds_toArray, List.set_cons_zero, List.set_cons_succ]
        refine wpAnyH_ready (rs := [13]) (by kernel_rfl) (by simp) ?_
        refine AllReadyH.cons rfl (fun K hK => ?_) AllReadyH.nil
        go_simp
        refine hK.out _ _ (grown_trans (World.grownBy_alloc wr (.cells #[.int .i64 pt, .int .i64 px, .int .i64 py, .int .i64 pz, .int .i64 pp, .int .i64 pq, .int .i64 ps, .int .i64 qt, .int .i64 qx, .int .i64 qy, .int .i64 qz, .int .i64 qp, .int .i64 qq, .int .i64 qs] 188) none) (grown_drewN _ _ 1)) (fun hHeld => ?_)
        clear hK K
        try simp only [Go.Act.put, List.setIfInBounds_toArray, List.set_cons_zero, List.set_cons_succ]
        refine wpAnyH_done (by kernel_rfl) ?_ _
        refine NoPanic.normal ?_
        go_wp2_with fail
        go_meet
        exact ⟨_, rfl, grown_trans (World.grownBy_alloc _ _ _) (grown_drewN _ _ 1), Nat.le_refl _, heap_alloc_new wr _⟩
      case rest =>
        obtain ⟨B, rfl, hgB, hBs, hB⟩ := hcut
        have HB := Lib.hid hB
        have HGC := Lib.hid hgB
        have HOC : Hid (wc.ownsRow (w.heap.size + 1) 3 1 u (strL kind ss k).length (ints (strL kind ss k))) := hown.out.kept hgB (Classical.em _)
        have HUB : Hid (u.ownBlock ≠ some B) := fun e => by have := (hown.out.lt B e).2; omega
        have HBW : Hid (w.heap.size + 1 ≤ wc.heap.size) := Nat.le_trans HBWR.out hgB.size
        clear hB hgB hBs hown a3 P0 P1 P2 P3 P4 P5 P6 R0 R1 R2 R3 R4 R5 R6
        by_cases h4 : 4 ≤ kind
        · obtain ⟨A, hA⟩ : ∃ A, amtE ⟨pt, px, py, pz, pp, pq, ps⟩ ⟨qt, qx, qy, qz, qp, qq, qs⟩ kind = A := ⟨_, rfl⟩
          have hA0 : 0 ≤ A := by rw [← hA]; exact HAB.out.1
          have hA1 : A ≤ 300000000 := by rw [← hA]; exact HAB.out.2
          have HAM := Lib.hid hA
          clear hA
          have hq : (kind == 4) = true ∨ ((kind == 4) = false ∧ (kind == 5) = true) := by
            by_cases h : kind = 4
            · exact .inl (by simpa using h)
            · exact .inr ⟨by simpa using h, by simp; omega⟩
          rcases hq with q4 | ⟨q4, q5⟩
          all_goals
            go_upto_region 7 with (fail)
            refine wp_region_noPanic ?_
            refine wp_region_held_drew (S := fun W => wc.grownBy W u.ownBlock ∧ W.heap[B]? = some (.cells #[.int .i64 pt, .int .i64 px, .int .i64 py, .int .i64 pz, .int .i64 pp, .int .i64 pq, .int .i64 ps, .int .i64 qt, .int .i64 qx, .int .i64 qy, .int .i64 qz, .int .i64 qp, .int .i64 qq, .int .i64 qs] 188 (0, 0))) (by kernel_rfl) ⟨grown_then (grown_none (grown_refl _ _)) (grown_drewN wc none 1), HB.out⟩ (fun hHeld => ?_)
            refine wpAnyH_take (i := 0) (v := .agg #[.int .i64 pt, .int .i64 px, .int .i64 py, .int .i64 pz, .int .i64 pp, .int .i64 pq, .int .i64 ps, .int .i64 qt, .int .i64 qx, .int .i64 qy, .int .i64 qz, .int .i64 qp, .int .i64 qq, .int .i64 qs]) rfl (by kernel_rfl) (by kernel_rfl) (by kernel_rfl) (fun _ _ _ h => h) (Or.inl ⟨by rfl, fun V hV => ?_⟩) (by assumption) ?_
            · have hb := hV.2; have c0 : V.cell? ⟨B, 0, none⟩ = some (.int .i64 pt) := (by simp [World.cell?, hb]); have c1 : V.cell? ⟨B, 1, none⟩ = some (.int .i64 px) := (by simp [World.cell?, hb]); have c2 : V.cell? ⟨B, 2, none⟩ = some (.int .i64 py) := (by simp [World.cell?, hb]); have c3 : V.cell? ⟨B, 3, none⟩ = some (.int .i64 pz) := (by simp [World.cell?, hb]); have c4 : V.cell? ⟨B, 4, none⟩ = some (.int .i64 pp) := (by simp [World.cell?, hb]); have c5 : V.cell? ⟨B, 5, none⟩ = some (.int .i64 pq) := (by simp [World.cell?, hb]); have c6 : V.cell? ⟨B, 6, none⟩ = some (.int .i64 ps) := (by simp [World.cell?, hb]); have c7 : V.cell? ⟨B, 7, none⟩ = some (.int .i64 qt) := (by simp [World.cell?, hb]); have c8 : V.cell? ⟨B, 8, none⟩ = some (.int .i64 qx) := (by simp [World.cell?, hb]); have c9 : V.cell? ⟨B, 9, none⟩ = some (.int .i64 qy) := (by simp [World.cell?, hb]); have c10 : V.cell? ⟨B, 10, none⟩ = some (.int .i64 qz) := (by simp [World.cell?, hb]); have c11 : V.cell? ⟨B, 11, none⟩ = some (.int .i64 qp) := (by simp [World.cell?, hb]); have c12 : V.cell? ⟨B, 12, none⟩ = some (.int .i64 qq) := (by simp [World.cell?, hb]); have c13 : V.cell? ⟨B, 13, none⟩ = some (.int .i64 qs) := (by simp [World.cell?, hb]); clear hV
              clear hHeld
              go_simp
            simp only [Go.Act.put, List.setIfInBounds_toArray, List.set_cons_zero, List.set_cons_succ]
            refine wpAnyH_take (i := 1) (v := u) rfl (by kernel_rfl) (by kernel_rfl) (by kernel_rfl) (fun _ _ _ h => h) (Or.inl ⟨by rfl, fun V hV => ?_⟩) (by assumption) ?_
            · clear hV
              clear hHeld
              go_simp
            simp only [Go.Act.put, List.setIfInBounds_toArray, List.set_cons_zero, List.set_cons_succ]
            refine wpAnyH_take (i := 2) (v := .agg #[.int .i64 pt, .int .i64 px, .int .i64 py, .int .i64 pz, .int .i64 pp, .int .i64 pq, .int .i64 ps, .int .i64 qt, .int .i64 qx, .int .i64 qy, .int .i64 qz, .int .i64 qp, .int .i64 qq, .int .i64 qs]) rfl (by kernel_rfl) (by kernel_rfl) (by kernel_rfl) (fun _ _ _ h => h) (Or.inl ⟨by rfl, fun V hV => ?_⟩) (by assumption) ?_
            · have hb := hV.2; have c0 : V.cell? ⟨B, 0, none⟩ = some (.int .i64 pt) := (by simp [World.cell?, hb]); have c1 : V.cell? ⟨B, 1, none⟩ = some (.int .i64 px) := (by simp [World.cell?, hb]); have c2 : V.cell? ⟨B, 2, none⟩ = some (.int .i64 py) := (by simp [World.cell?, hb]); have c3 : V.cell? ⟨B, 3, none⟩ = some (.int .i64 pz) := (by simp [World.cell?, hb]); have c4 : V.cell? ⟨B, 4, none⟩ = some (.int .i64 pp) := (by simp [World.cell?, hb]); have c5 : V.cell? ⟨B, 5, none⟩ = some (.int .i64 pq) := (by simp [World.cell?, hb]); have c6 : V.cell? ⟨B, 6, none⟩ = some (.int .i64 ps) := (by simp [World.cell?, hb]); have c7 : V.cell? ⟨B, 7, none⟩ = some (.int .i64 qt) := (by simp [World.cell?, hb]); have c8 : V.cell? ⟨B, 8, none⟩ = some (.int .i64 qx) := (by simp [World.cell?, hb]); have c9 : V.cell? ⟨B, 9, none⟩ = some (.int .i64 qy) := (by simp [World.cell?, hb]); have c10 : V.cell? ⟨B, 10, none⟩ = some (.int .i64 qz) := (by simp [World.cell?, hb]); have c11 : V.cell? ⟨B, 11, none⟩ = some (.int .i64 qp) := (by simp [World.cell?, hb]); have c12 : V.cell? ⟨B, 12, none⟩ = some (.int .i64 qq) := (by simp [World.cell?, hb]); have c13 : V.cell? ⟨B, 13, none⟩ = some (.int .i64 qs) := (by simp [World.cell?, hb]); clear hV
              clear hHeld
              go_simp
            simp only [Go.Act.put, List.setIfInBounds_toArray, List.set_cons_zero, List.set_cons_succ]
            refine wpAnyH_take (i := 3) (v := .int .i64 kind) rfl (by kernel_rfl) (by kernel_rfl) (by kernel_rfl) (fun _ _ _ h => h) (Or.inl ⟨by rfl, fun V hV => ?_⟩) (by assumption) ?_
            · clear hV
              clear hHeld
              go_simp
            simp only [Go.Act.put, List.setIfInBounds_toArray, List.set_cons_zero, List.set_cons_succ]
            refine wpAnyH_ready (rs := [4]) (by kernel_rfl) (by simp) ?_
            refine AllReadyH.cons rfl (fun K hK => ?_) AllReadyH.nil
            go_simp
            refine (amount_is ⟨pt, px, py, pz, pp, pq, ps⟩ ⟨qt, qx, qy, qz, qp, qq, qs⟩ HST.out kind _ HAM).mono ?_; rintro e w1 ⟨rfl, hg1⟩
            refine hK.out _ _ ⟨grown_then (grown_then (grown_none (grown_refl _ _)) (grown_drewN wc none 1)) hg1, (hg1.block B (by show _ < wc.heap.size; exact (Array.getElem?_eq_some_iff.1 HB.out).1) (by simp)).trans HB.out⟩ (fun hHeld1 => ?_)
            have HO1 : Hid (w1.ownsRow (w.heap.size + 1) 3 1 u (strL kind ss k).length (ints (strL kind ss k))) := World.ownsRow.kept (w := wc.drew) HOC.out hg1 (Classical.em _)
            have HG1 := Lib.hid hg1
            clear hK K hHeld hg1
            try simp only [Go.Act.put, List.setIfInBounds_toArray, List.set_cons_zero, List.set_cons_succ]
            refine wpAnyH_ready (rs := [5]) (by kernel_rfl) (by simp) ?_
            refine AllReadyH.cons rfl (fun K hK => ?_) AllReadyH.nil
            go_simp
            refine (appendShares_any ⟨pt, px, py, pz, pp, pq, ps⟩ ⟨qt, qx, qy, qz, qp, qq, qs⟩ HST.out.t A hA0 hA1 hlen _ (Nat.le_trans HBW.out HG1.out.size) HO1.out).mono ?_; rintro e w2 ⟨v2, rfl, hA2⟩
            have HA2 := Lib.hid hA2
            refine hK.out _ _ ⟨World.grownBy.trans hHeld1.1 hA2.g, (hA2.g.block B (Array.getElem?_eq_some_iff.1 hHeld1.2).1 (fun e => HUB.out e.symm)).trans hHeld1.2⟩ (fun hHeld => ?_)
            have HG2 : Hid (wc.grownBy w2 u.ownBlock) := hHeld.1
            clear hK K hHeld1 hA2
            try simp only [Go.Act.put, List.setIfInBounds_toArray, List.set_cons_zero, List.set_cons_succ]
            refine wpAnyH_take (i := 6) (v := v2) rfl (by kernel_rfl) (by kernel_rfl) (by kernel_rfl) (fun _ _ _ h => h) (Or.inl ⟨by rfl, fun V hV => ?_⟩) (by assumption) ?_
            · clear hV
              clear hHeld
              go_simp
            simp only [Go.Act.put, List.setIfInBounds_toArray, List.set_cons_zero, List.set_cons_succ]
            refine wpAnyH_done (by kernel_rfl) ?_ _
            refine NoPanic.normal ?_
            have HN2 : Hid (w2.ownsRow (w.heap.size + 1) 3 1 v2 (strL kind ss m).length (ints (strL kind ss m))) := by
              show World.ownsRow _ _ _ _ _ _ _
              rw [HMK.out, HLS.out, stepS_shares h4, HAM.out]
              exact HA2.out.own
            have HGW : Hid (w.grownBy w2 none) := grown_low (grown_trans HGR.out HGC.out) HG2.out (fun g hg => by have := (HOC.out.lt g hg).1; omega)
            have HA3 : Hid (w2.cell? ⟨w.heap.size, 3, none⟩ = some (.slice (some ⟨b, off, none⟩) ss.length sc)) := by
              show _ = _
              rw [World.cell?_of_block (a := ⟨w.heap.size, 3, none⟩) (HG2.out.block w.heap.size (by have := HGC.out.size; have := HLW.out; omega) (fun e => by have := (HOC.out.lt _ e.symm).1; omega))]
              exact grown_cell HGC.out A3.out
            clear HA2 HG2 HO1 HG1 HOC
            go_wp2_with fail
            go_roundw
            case rel => exact ⟨m, m + 1, v2, rfl, by go_num, rfl, hlt2, HN2.out, HGW.out, HA3.out⟩
            case measure => simp [intOf]; omega
        · obtain ⟨A, hA⟩ : ∃ A, valE ⟨pt, px, py, pz, pp, pq, ps⟩ ⟨qt, qx, qy, qz, qp, qq, qs⟩ kind = A := ⟨_, rfl⟩
          have HAM := Lib.hid hA
          clear hA
          have q4 : (kind == 4) = false := by rw [beq_eq_false_iff_ne]; omega
          have q5 : (kind == 5) = false := by rw [beq_eq_false_iff_ne]; omega
          go_upto_region 8 with (fail)
          refine wp_region_noPanic ?_
          refine wp_region_held_drew (S := fun W => wc.grownBy W u.ownBlock ∧ W.heap[B]? = some (.cells #[.int .i64 pt, .int .i64 px, .int .i64 py, .int .i64 pz, .int .i64 pp, .int .i64 pq, .int .i64 ps, .int .i64 qt, .int .i64 qx, .int .i64 qy, .int .i64 qz, .int .i64 qp, .int .i64 qq, .int .i64 qs] 188 (0, 0))) (by kernel_rfl) ⟨grown_then (grown_none (grown_refl _ _)) (grown_drewN wc none 1), HB.out⟩ (fun hHeld => ?_)
          refine wpAnyH_take (i := 0) (v := .agg #[.int .i64 pt, .int .i64 px, .int .i64 py, .int .i64 pz, .int .i64 pp, .int .i64 pq, .int .i64 ps, .int .i64 qt, .int .i64 qx, .int .i64 qy, .int .i64 qz, .int .i64 qp, .int .i64 qq, .int .i64 qs]) rfl (by kernel_rfl) (by kernel_rfl) (by kernel_rfl) (fun _ _ _ h => h) (Or.inl ⟨by rfl, fun V hV => ?_⟩) (by assumption) ?_
          · have hb := hV.2; have c0 : V.cell? ⟨B, 0, none⟩ = some (.int .i64 pt) := (by simp [World.cell?, hb]); have c1 : V.cell? ⟨B, 1, none⟩ = some (.int .i64 px) := (by simp [World.cell?, hb]); have c2 : V.cell? ⟨B, 2, none⟩ = some (.int .i64 py) := (by simp [World.cell?, hb]); have c3 : V.cell? ⟨B, 3, none⟩ = some (.int .i64 pz) := (by simp [World.cell?, hb]); have c4 : V.cell? ⟨B, 4, none⟩ = some (.int .i64 pp) := (by simp [World.cell?, hb]); have c5 : V.cell? ⟨B, 5, none⟩ = some (.int .i64 pq) := (by simp [World.cell?, hb]); have c6 : V.cell? ⟨B, 6, none⟩ = some (.int .i64 ps) := (by simp [World.cell?, hb]); have c7 : V.cell? ⟨B, 7, none⟩ = some (.int .i64 qt) := (by simp [World.cell?, hb]); have c8 : V.cell? ⟨B, 8, none⟩ = some (.int .i64 qx) := (by simp [World.cell?, hb]); have c9 : V.cell? ⟨B, 9, none⟩ = some (.int .i64 qy) := (by simp [World.cell?, hb]); have c10 : V.cell? ⟨B, 10, none⟩ = some (.int .i64 qz) := (by simp [World.cell?, hb]); have c11 : V.cell? ⟨B, 11, none⟩ = some (.int .i64 qp) := (by simp [World.cell?, hb]); have c12 : V.cell? ⟨B, 12, none⟩ = some (.int .i64 qq) := (by simp [World.cell?, hb]); have c13 : V.cell? ⟨B, 13, none⟩ = some (.int .i64 qs) := (by simp [World.cell?, hb]); clear hV
            clear hHeld
            go_simp
          simp only [Go.Act.put, List.setIfInBounds_toArray, List.set_cons_zero, List.set_cons_succ]
          refine wpAnyH_take (i := 1) (v := u) rfl (by kernel_rfl) (by kernel_rfl) (by kernel_rfl) (fun _ _ _ h => h) (Or.inl ⟨by rfl, fun V hV => ?_⟩) (by assumption) ?_
          · clear hV
            clear hHeld
            go_simp
          simp only [Go.Act.put, List.setIfInBounds_toArray, List.set_cons_zero, List.set_cons_succ]
          refine wpAnyH_take (i := 2) (v := .agg #[.int .i64 pt, .int .i64 px, .int .i64 py, .int .i64 pz, .int .i64 pp, .int .i64 pq, .int .i64 ps, .int .i64 qt, .int .i64 qx, .int .i64 qy, .int .i64 qz, .int .i64 qp, .int .i64 qq, .int .i64 qs]) rfl (by kernel_rfl) (by kernel_rfl) (by kernel_rfl) (fun _ _ _ h => h) (Or.inl ⟨by rfl, fun V hV => ?_⟩) (by assumption) ?_
          · have hb := hV.2; have c0 : V.cell? ⟨B, 0, none⟩ = some (.int .i64 pt) := (by simp [World.cell?, hb]); have c1 : V.cell? ⟨B, 1, none⟩ = some (.int .i64 px) := (by simp [World.cell?, hb]); have c2 : V.cell? ⟨B, 2, none⟩ = some (.int .i64 py) := (by simp [World.cell?, hb]); have c3 : V.cell? ⟨B, 3, none⟩ = some (.int .i64 pz) := (by simp [World.cell?, hb]); have c4 : V.cell? ⟨B, 4, none⟩ = some (.int .i64 pp) := (by simp [World.cell?, hb]); have c5 : V.cell? ⟨B, 5, none⟩ = some (.int .i64 pq) := (by simp [World.cell?, hb]); have c6 : V.cell? ⟨B, 6, none⟩ = some (.int .i64 ps) := (by simp [World.cell?, hb]); have c7 : V.cell? ⟨B, 7, none⟩ = some (.int .i64 qt) := (by simp [World.cell?, hb]); have c8 : V.cell? ⟨B, 8, none⟩ = some (.int .i64 qx) := (by simp [World.cell?, hb]); have c9 : V.cell? ⟨B, 9, none⟩ = some (.int .i64 qy) := (by simp [World.cell?, hb]); have c10 : V.cell? ⟨B, 10, none⟩ = some (.int .i64 qz) := (by simp [World.cell?, hb]); have c11 : V.cell? ⟨B, 11, none⟩ = some (.int .i64 qp) := (by simp [World.cell?, hb]); have c12 : V.cell? ⟨B, 12, none⟩ = some (.int .i64 qq) := (by simp [World.cell?, hb]); have c13 : V.cell? ⟨B, 13, none⟩ = some (.int .i64 qs) := (by simp [World.cell?, hb]); clear hV
            clear hHeld
            go_simp
          simp only [Go.Act.put, List.setIfInBounds_toArray, List.set_cons_zero, List.set_cons_succ]
          refine wpAnyH_take (i := 3) (v := .int .i64 kind) rfl (by kernel_rfl) (by kernel_rfl) (by kernel_rfl) (fun _ _ _ h => h) (Or.inl ⟨by rfl, fun V hV => ?_⟩) (by assumption) ?_
          · clear hV
            clear hHeld
            go_simp
          simp only [Go.Act.put, List.setIfInBounds_toArray, List.set_cons_zero, List.set_cons_succ]
          refine wpAnyH_ready (rs := [4]) (by kernel_rfl) (by simp) ?_
          refine AllReadyH.cons rfl (fun K hK => ?_) AllReadyH.nil
          go_simp
          refine (value_is ⟨pt, px, py, pz, pp, pq, ps⟩ ⟨qt, qx, qy, qz, qp, qq, qs⟩ HST.out.t kind _ HAM).mono ?_; rintro e w1 ⟨rfl, hg1⟩
          refine hK.out _ _ ⟨grown_then (grown_then (grown_none (grown_refl _ _)) (grown_drewN wc none 1)) hg1, (hg1.block B (by show _ < wc.heap.size; exact (Array.getElem?_eq_some_iff.1 HB.out).1) (by simp)).trans HB.out⟩ (fun hHeld1 => ?_)
          have HO1 : Hid (w1.ownsRow (w.heap.size + 1) 3 1 u (strL kind ss k).length (ints (strL kind ss k))) := World.ownsRow.kept (w := wc.drew) HOC.out hg1 (Classical.em _)
          have HG1 := Lib.hid hg1
          clear hK K hHeld hg1
          try simp only [Go.Act.put, List.setIfInBounds_toArray, List.set_cons_zero, List.set_cons_succ]
          refine wpAnyH_ready (rs := [5]) (by kernel_rfl) (by simp) ?_
          refine AllReadyH.cons rfl (fun K hK => ?_) AllReadyH.nil
          go_simp
          refine (appendValues_any ⟨pt, px, py, pz, pp, pq, ps⟩ ⟨qt, qx, qy, qz, qp, qq, qs⟩ HST.out.t A hlen _ (Nat.le_trans HBW.out HG1.out.size) HO1.out).mono ?_; rintro e w2 ⟨v2, rfl, hA2⟩
          have HA2 := Lib.hid hA2
          refine hK.out _ _ ⟨World.grownBy.trans hHeld1.1 hA2.g, (hA2.g.block B (Array.getElem?_eq_some_iff.1 hHeld1.2).1 (fun e => HUB.out e.symm)).trans hHeld1.2⟩ (fun hHeld => ?_)
          have HG2 : Hid (wc.grownBy w2 u.ownBlock) := hHeld.1
          clear hK K hHeld1 hA2
          try simp only [Go.Act.put, List.setIfInBounds_toArray, List.set_cons_zero, List.set_cons_succ]
          refine wpAnyH_take (i := 6) (v := v2) rfl (by kernel_rfl) (by kernel_rfl) (by kernel_rfl) (fun _ _ _ h => h) (Or.inl ⟨by rfl, fun V hV => ?_⟩) (by assumption) ?_
          · clear hV
            clear hHeld
            go_simp
          simp only [Go.Act.put, List.setIfInBounds_toArray, List.set_cons_zero, List.set_cons_succ]
          refine wpAnyH_done (by kernel_rfl) ?_ _
          refine NoPanic.normal ?_
          have HN2 : Hid (w2.ownsRow (w.heap.size + 1) 3 1 v2 (strL kind ss m).length (ints (strL kind ss m))) := by
            show World.ownsRow _ _ _ _ _ _ _
            rw [HMK.out, HLS.out, stepS_vals h4, HAM.out]
            exact HA2.out.own
          have HGW : Hid (w.grownBy w2 none) := grown_low (grown_trans HGR.out HGC.out) HG2.out (fun g hg => by have := (HOC.out.lt g hg).1; omega)
          have HA3 : Hid (w2.cell? ⟨w.heap.size, 3, none⟩ = some (.slice (some ⟨b, off, none⟩) ss.length sc)) := by
            show _ = _
            rw [World.cell?_of_block (a := ⟨w.heap.size, 3, none⟩) (HG2.out.block w.heap.size (by have := HGC.out.size; have := HLW.out; omega) (fun e => by have := (HOC.out.lt _ e.symm).1; omega))]
            exact grown_cell HGC.out A3.out
          clear HA2 HG2 HO1 HG1 HOC
          go_wp2_with fail
          go_roundw
          case rel => exact ⟨m, m + 1, v2, rfl, by go_num, rfl, hlt2, HN2.out, HGW.out, HA3.out⟩
          case measure => simp [intOf]; omega
    · have hke : k = ss.length - 1 := by have := hmk.out; have := hk.out; omega
      have HOW : Hid (wr.ownsRow (w.heap.size + 1) 3 1 u (streamS kind ss).length (ints (streamS kind ss))) := by
        show World.ownsRow _ _ _ _ _ _ _
        unfold streamS; rw [← hke]; exact hown.out
      have HG := Lib.hid hg.out
      clear hown hg hke
      go_wp2_with fail
      go_ret
      exact ⟨⟨_, rfl, HOW.out⟩, HG.out⟩

end Go.Proofs.Ytmfnphknoclhfaa
