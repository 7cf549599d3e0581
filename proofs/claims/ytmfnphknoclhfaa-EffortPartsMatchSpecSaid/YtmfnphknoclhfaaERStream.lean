/- The contract of the reference's Stream, where nothing is wrong. -/
import Derived.Test.YtmfnphknoclhfaaERStep4
import Derived.Test.YtmfnphknoclhfaaTRChk
import Derived.Deep.AppendLies
namespace Go.Proofs.Ytmfnphknoclhfaa
open Go.RowKit

theorem own_form4 {w : World} {base n : Nat} {e : TypeId} {size : Nat} {v : Value} {xs : List Value} (h : w.ownsRow base e size v (n + 1) xs) : ∃ g cap, v = .slice (some ⟨g, 0, none⟩) (n + 1) cap := by
  rcases h.2 with ⟨_, h0⟩ | ⟨g, cap, cur, h1, _⟩
  · omega
  · exact ⟨g, cap, h1⟩
theorem far_cell {w w' : World} {row : Option Nat} (hg : w.grownBy w' row) {a : Addr} {v : Value} (h : w.cell? a = some v) (hne : row ≠ some a.block) : w'.cell? a = some v :=
  (World.cell?_of_block (hg.block a.block (lt_of_cell h) (fun e => hne e.symm))).trans h

set_option maxRecDepth 100000 in
set_option maxHeartbeats 6400000 in
theorem RStream_ok (nm : ByteArray) (sp st : Int) (so : Option Addr) (sc : Nat) (ss : List Smp) (lo : Option Addr) (lc : Nat) (ls : List LapV) (to_ : Option Addr) (tc : Nat) (ts : List ByteArray) (kind : Int) (k1 : 1 ≤ kind) (k5 : kind ≤ 5) (w : World)
    (HA : Hid (ActAt w ⟨nm, sp, st, so, sc, ss, lo, lc, ls, to_, tc, ts⟩)) (HCE : Hid (chkE ⟨nm, sp, st, so, sc, ss, lo, lc, ls, to_, tc, ts⟩ = 0)) (HS : Hid (SOk ss)) :
    Calls Try.prog 85 #[.agg #[.string nm, .int .i64 sp, .int .i64 st, .slice so ss.length sc, .slice lo ls.length lc, .slice to_ ts.length tc], .int .i64 kind] w fun e w' => (∃ v, e = .returned (.tuple #[v, .int .i64 0]) ∧ w'.ownsRow (w.heap.size + 1) 3 1 v (streamS kind ss).length (ints (streamS kind ss))) ∧ w.grownBy w' none := by
  have hlen0 := HS.out.len
  obtain ⟨i0, hi, hz0, hz1, hz2⟩ := info_parts info_int
  have HI := Lib.hid hi; have HZ0 := Lib.hid hz0; have HZ1 := Lib.hid hz1; have HZ2 := Lib.hid hz2
  clear hi hz0 hz1 hz2
  go_enter Try.func85, Try.ntmps85
  go_wp2_with fail
  refine (rcheck_any ⟨nm, sp, st, so, sc, ss, lo, lc, ls, to_, tc, ts⟩ _ (HA.out.grown (World.grownBy_alloc _ _ _)) HCE).mono ?_; rintro e w1 ⟨rfl, hg1⟩
  have HG0 : Hid (w.grownBy w1 none) := grown_trans (World.grownBy_alloc w (.cells #[.string nm, .int .i64 sp, .int .i64 st, .slice so ss.length sc, .slice lo ls.length lc, .slice to_ ts.length tc] 42) none) hg1
  have HA30 : Hid (w1.cell? ⟨w.heap.size, 3, none⟩ = some (.slice so ss.length sc)) := Lib.hid (grown_cell hg1 (by go_simp))
  clear hg1
  go_wp2_with fail
  go_loopw [7, 8] (fun lv iv wr => ∃ (k m : Nat) (u : Value), u = lv ∧ iv = .int .i64 m ∧ Hid (m = k + 1) ∧ Hid (k ≤ ss.length - 1) ∧ Hid (wr.ownsRow (w.heap.size + 1) 3 1 u (strL kind ss k).length (ints (strL kind ss k))) ∧ Hid (w.grownBy wr none) ∧ Hid (wr.cell? ⟨w.heap.size, 3, none⟩ = some (.slice so ss.length sc)))
    (fun _ iv _ => ss.length - (intOf iv).toNat)
  case atStart => exact ⟨0, 1, _, rfl, rfl, rfl, Nat.zero_le _, World.ownsRow_nil _ _ _ _, HG0.out, HA30.out⟩
  case round =>
    obtain ⟨k, m, u, rfl, rfl, hmk, hk, hown, hg, hbx⟩ := hrel
    have a3 := hbx.out
    by_cases hlt : m < ss.length
    · have hlt2 : m ≤ ss.length - 1 := by omega
      have hso : ∃ b off, so = some ⟨b, off, none⟩ ∧ b < w.heap.size := by
        have hne : ss ≠ [] := fun h => by rw [h] at hlt; simp at hlt
        have hS := (HA.out).hs
        cases so with
        | none => exact absurd (hS.nil rfl) hne
        | some p =>
          obtain ⟨b, off, spot⟩ := p
          have hsp := hS.spot _ rfl hne
          simp only at hsp
          subst hsp
          exact ⟨b, off, rfl, hS.block _ rfl hne⟩
      obtain ⟨b, off, rfl, hbw⟩ := hso
      have NB : Hid (u.ownBlock ≠ some b) := fun e => by have := (hown.out.lt b e).1; omega
      have NB0 : Hid (u.ownBlock ≠ some w.heap.size) := fun e => by have := (hown.out.lt _ e).1; omega
      have em : (m : Int) - 1 = (k : Int) := by have := hmk.out; omega
      have rk : IntKind.i64.wrap (k : Int) = (k : Int) := IntWalk.i64_in _ (by have := hmk.out; omega)
      have hkl : k < ss.length := by have := hmk.out; omega
      have hkl2 : (k : Int) < (ss.length : Int) := by omega
      have hk1 : k + 1 < ss.length := by have := hmk.out; omega
      obtain ⟨p0, p1, p2, p3, p4, p5, p6⟩ := (HA.out.grown hg.out).hs.cells _ rfl k hkl
      obtain ⟨q0, q1, q2, q3, q4, q5, q6⟩ := (HA.out.grown hg.out).hs.cells _ rfl m hlt
      rw [← smpD_at hkl] at p0 p1 p2 p3 p4 p5 p6
      rw [← smpD_at hlt] at q0 q1 q2 q3 q4 q5 q6
      simp only at p0 p1 p2 p3 p4 p5 p6 q0 q1 q2 q3 q4 q5 q6
      have hst : StepIn (smpD ss k) (smpD ss m) := by rw [hmk.out]; exact HS.out.stepIn hk1
      have hln := strL_len (kind := kind) HS.out k hkl
      have hls : strL kind ss (k + 1) = strL kind ss k ++ stepS kind (smpD ss k) (smpD ss m) := by rw [hmk.out]; rfl
      obtain ⟨S, hS⟩ : ∃ S : Nat, (smpD ss m).t - (smpD ss k).t = S := ⟨((smpD ss m).t - (smpD ss k).t).toNat, by have := hst.t.pq; omega⟩
      have hS0 : 0 < S := by have := hst.t.pq; omega
      have hlen : (strL kind ss k).length + S ≤ 1000000 := by
        have := (HS.out.inn m hlt).2.1; omega
      have hss : stepS kind (smpD ss k) (smpD ss m) = stepTo kind (smpD ss k) (smpD ss m) S := by unfold stepS; rw [hS]; rfl
      rw [hss] at hls
      have HST := Lib.hid hst; have HLS := Lib.hid hls; have HMK := Lib.hid hmk.out; have HSV := Lib.hid hS
      clear hst hln hls hk1 hmk hS hss
      generalize smpD ss k = P at *
      generalize smpD ss m = Q at *
      obtain ⟨pt, px, py, pz, pp, pq, ps⟩ := P
      obtain ⟨qt, qx, qy, qz, qp, qq, qs⟩ := Q
      simp only at p0 p1 p2 p3 p4 p5 p6 q0 q1 q2 q3 q4 q5 q6
      have A3 := Lib.hid a3
      have P0 := Lib.hid p0; have P1 := Lib.hid p1; have P2 := Lib.hid p2; have P3 := Lib.hid p3; have P4 := Lib.hid p4; have P5 := Lib.hid p5; have P6 := Lib.hid p6
      have R0 := Lib.hid q0; have R1 := Lib.hid q1; have R2 := Lib.hid q2; have R3 := Lib.hid q3; have R4 := Lib.hid q4; have R5 := Lib.hid q5; have R6 := Lib.hid q6
      have HLW : Hid (w.heap.size < wr.heap.size) := lt_of_cell a3
      have HGR := Lib.hid hg.out
      clear p0 p1 p2 p3 p4 p5 p6 q0 q1 q2 q3 q4 q5 q6 hg hbx
      go_upto_region 10 with (fail)
      clear a3
      refine wp_region_noPanic ?_
      refine wp_region_held_drew (S := fun W => wr.grownBy W u.ownBlock) (by kernel_rfl) (grown_then (grown_none (grown_refl _ _)) (grown_drewN wr none 1)) (fun hHeld => ?_)
      refine wpAnyH_take (i := 0) (v := u) rfl (by kernel_rfl) (by kernel_rfl) (by kernel_rfl) (fun _ _ _ h => h) (Or.inl ⟨by rfl, fun V hV => ?_⟩) (by assumption) ?_
      · clear hV
        clear hHeld
        go_simp
      simp only [Go.Act.put, List.setIfInBounds_toArray, List.set_cons_zero, List.set_cons_succ]
      refine wpAnyH_take (i := 1) (v := .pointer (some ⟨w.heap.size, 3, none⟩)) rfl (by kernel_rfl) (by kernel_rfl) (by kernel_rfl) (fun _ _ _ h => h) (Or.inl ⟨by rfl, fun V hV => ?_⟩) (by assumption) ?_
      · clear hV
        clear hHeld
        go_simp
      simp only [Go.Act.put, List.setIfInBounds_toArray, List.set_cons_zero, List.set_cons_succ]
      refine wpAnyH_take (i := 2) (v := .slice (some ⟨b, off, none⟩) ss.length sc) rfl (by kernel_rfl) (by kernel_rfl) (by kernel_rfl) (fun _ _ _ h => h) (Or.inl ⟨by rfl, fun V hV => ?_⟩) (by assumption) ?_
      · have v3 := far_cell hV A3.out (fun e => NB0.out e); clear hV
        clear hHeld
        go_simp
      simp only [Go.Act.put, List.setIfInBounds_toArray, List.set_cons_zero, List.set_cons_succ]
      refine wpAnyH_take (i := 3) (v := .int .i64 (m : Int)) rfl (by kernel_rfl) (by kernel_rfl) (by kernel_rfl) (fun _ _ _ h => h) (Or.inl ⟨by rfl, fun V hV => ?_⟩) (by assumption) ?_
      · clear hV
        clear hHeld
        go_simp
      simp only [Go.Act.put, List.setIfInBounds_toArray, List.set_cons_zero, List.set_cons_succ]
      refine wpAnyH_take (i := 4) (v := .int .i64 (k : Int)) rfl (by kernel_rfl) (by kernel_rfl) (by kernel_rfl) (fun _ _ _ h => h) (Or.inl ⟨by rfl, fun V hV => ?_⟩) (by assumption) ?_
      · clear hV
        clear hHeld
        go_simp
      simp only [Go.Act.put, List.setIfInBounds_toArray, List.set_cons_zero, List.set_cons_succ]
      refine wpAnyH_take (i := 5) (v := .pointer (some ⟨b, off + k * 7, none⟩)) rfl (by kernel_rfl) (by kernel_rfl) (by kernel_rfl) (fun _ _ _ h => h) (Or.inl ⟨by rfl, fun V hV => ?_⟩) (by assumption) ?_
      · clear hV
        clear hHeld
        go_simp
      simp only [Go.Act.put, List.setIfInBounds_toArray, List.set_cons_zero, List.set_cons_succ]
      refine wpAnyH_take (i := 6) (v := .agg #[.int .i64 pt, .int .i64 px, .int .i64 py, .int .i64 pz, .int .i64 pp, .int .i64 pq, .int .i64 ps]) rfl (by kernel_rfl) (by kernel_rfl) (by kernel_rfl) (fun _ _ _ h => h) (Or.inl ⟨by rfl, fun V hV => ?_⟩) (by assumption) ?_
      · have r0 := far_cell hV P0.out (fun e => NB.out e); have r1 := far_cell hV P1.out (fun e => NB.out e); have r2 := far_cell hV P2.out (fun e => NB.out e); have r3 := far_cell hV P3.out (fun e => NB.out e); have r4 := far_cell hV P4.out (fun e => NB.out e); have r5 := far_cell hV P5.out (fun e => NB.out e); have r6 := far_cell hV P6.out (fun e => NB.out e); clear hV
        clear hHeld
        go_simp
      simp only [Go.Act.put, List.setIfInBounds_toArray, List.set_cons_zero, List.set_cons_succ]
      refine wpAnyH_take (i := 7) (v := .pointer (some ⟨w.heap.size, 3, none⟩)) rfl (by kernel_rfl) (by kernel_rfl) (by kernel_rfl) (fun _ _ _ h => h) (Or.inl ⟨by rfl, fun V hV => ?_⟩) (by assumption) ?_
      · clear hV
        clear hHeld
        go_simp
      simp only [Go.Act.put, List.setIfInBounds_toArray, List.set_cons_zero, List.set_cons_succ]
      refine wpAnyH_take (i := 8) (v := .slice (some ⟨b, off, none⟩) ss.length sc) rfl (by kernel_rfl) (by kernel_rfl) (by kernel_rfl) (fun _ _ _ h => h) (Or.inl ⟨by rfl, fun V hV => ?_⟩) (by assumption) ?_
      · have v3 := far_cell hV A3.out (fun e => NB0.out e); clear hV
        clear hHeld
        go_simp
      simp only [Go.Act.put, List.setIfInBounds_toArray, List.set_cons_zero, List.set_cons_succ]
      refine wpAnyH_take (i := 9) (v := .int .i64 (m : Int)) rfl (by kernel_rfl) (by kernel_rfl) (by kernel_rfl) (fun _ _ _ h => h) (Or.inl ⟨by rfl, fun V hV => ?_⟩) (by assumption) ?_
      · clear hV
        clear hHeld
        go_simp
      simp only [Go.Act.put, List.setIfInBounds_toArray, List.set_cons_zero, List.set_cons_succ]
      refine wpAnyH_take (i := 10) (v := .pointer (some ⟨b, off + m * 7, none⟩)) rfl (by kernel_rfl) (by kernel_rfl) (by kernel_rfl) (fun _ _ _ h => h) (Or.inl ⟨by rfl, fun V hV => ?_⟩) (by assumption) ?_
      · clear hV
        clear hHeld
        go_simp
      simp only [Go.Act.put, List.setIfInBounds_toArray, List.set_cons_zero, List.set_cons_succ]
      refine wpAnyH_take (i := 11) (v := .agg #[.int .i64 qt, .int .i64 qx, .int .i64 qy, .int .i64 qz, .int .i64 qp, .int .i64 qq, .int .i64 qs]) rfl (by kernel_rfl) (by kernel_rfl) (by kernel_rfl) (fun _ _ _ h => h) (Or.inl ⟨by rfl, fun V hV => ?_⟩) (by assumption) ?_
      · have r0 := far_cell hV R0.out (fun e => NB.out e); have r1 := far_cell hV R1.out (fun e => NB.out e); have r2 := far_cell hV R2.out (fun e => NB.out e); have r3 := far_cell hV R3.out (fun e => NB.out e); have r4 := far_cell hV R4.out (fun e => NB.out e); have r5 := far_cell hV R5.out (fun e => NB.out e); have r6 := far_cell hV R6.out (fun e => NB.out e); clear hV
        clear hHeld
        go_simp
      simp only [Go.Act.put, List.setIfInBounds_toArray, List.set_cons_zero, List.set_cons_succ]
      refine wpAnyH_take (i := 12) (v := .int .i64 kind) rfl (by kernel_rfl) (by kernel_rfl) (by kernel_rfl) (fun _ _ _ h => h) (Or.inl ⟨by rfl, fun V hV => ?_⟩) (by assumption) ?_
      · clear hV
        clear hHeld
        go_simp
      simp only [Go.Act.put, List.setIfInBounds_toArray, List.set_cons_zero, List.set_cons_succ]
      refine wpAnyH_ready (rs := [13]) (by kernel_rfl) (by simp) ?_
      refine AllReadyH.cons rfl (fun K hK => ?_) AllReadyH.nil
      go_simp
      refine (rstep4_any ⟨pt, px, py, pz, pp, pq, ps⟩ ⟨qt, qx, qy, qz, qp, qq, qs⟩ HST.out kind k1 k5 _ HSV).mono ?_; rintro e w2 ⟨⟨sv, rfl, hsv⟩, hg2⟩
      refine hK.out _ _ (grown_then hHeld hg2) (fun hHeld1 => ?_)
      have HO1 : Hid (w2.ownsRow (w.heap.size + 1) 3 1 u (strL kind ss k).length (ints (strL kind ss k))) := World.ownsRow.kept (w := wr.drew) hown.out hg2 (Classical.em _)
      obtain ⟨S', rfl⟩ : ∃ S', S = S' + 1 := ⟨S - 1, by omega⟩
      obtain ⟨g, cap, rfl⟩ := own_form4 hsv
      have hcells := hsv.cells (g := g) rfl
      have HCE2 := Lib.hid hcells
      have HLN : Hid ((ints (stepTo kind ⟨pt, px, py, pz, pp, pq, ps⟩ ⟨qt, qx, qy, qz, qp, qq, qs⟩ (S' + 1))).length = (S' + 1) * 1) := by show _ = _; rw [ints_len, stepTo_len, Nat.mul_one]
      have hbs : w.heap.size + 1 ≤ w2.heap.size := by have := hg2.size; have := HLW.out; have e : wr.drew.heap.size = wr.heap.size := rfl; omega
      clear hK K hHeld hg2 hsv hcells hown
      have hi := HI.out; have hz0 := HZ0.out; have hz1 := HZ1.out; have hz2 := HZ2.out
      try simp only [Go.Act.put, List.setIfInBounds_toArray, List.set_cons_zero, List.set_cons_succ]
      refine wpAnyH_ready (rs := [14]) (by kernel_rfl) (by simp) ?_
      refine AllReadyH.cons rfl (fun K hK => ?_) AllReadyH.nil
      refine step_append_lies _ (by rfl) _ _ _ (by rfl) (w.heap.size + 1) 3 i0 (.int .i64 0) 1 8 Try.underlying22 hi hz0 hz1 hz2 rfl (by omega) u (strL kind ss k).length (ints (strL kind ss k)) (by rfl) HO1.out
        ⟨g, 0, none⟩ (S' + 1) cap (ints (stepTo kind ⟨pt, px, py, pz, pp, pq, ps⟩ ⟨qt, qx, qy, qz, qp, qq, qs⟩ (S' + 1))) (by rfl) HLN.out HCE2.out (by intro u hu; unfold ints at hu; obtain ⟨_, _, rfl⟩ := List.mem_map.1 hu; rfl)
        (by omega) (by unfold maxLen; omega) (by omega) hbs _ rfl ?_
      intro gg cap2 w3 hown1 hgrow hat hlt4
      refine hK.out _ _ (World.grownBy.trans hHeld1 hgrow) (fun hHeld => ?_)
      have HN2 : Hid (w3.ownsRow (w.heap.size + 1) 3 1 (.slice (some ⟨gg, 0, none⟩) ((strL kind ss k).length + (S' + 1)) cap2) (strL kind ss m).length (ints (strL kind ss m))) := by
        show World.ownsRow _ _ _ _ _ _ _
        have e : (strL kind ss m) = strL kind ss k ++ stepTo kind ⟨pt, px, py, pz, pp, pq, ps⟩ ⟨qt, qx, qy, qz, qp, qq, qs⟩ (S' + 1) := by rw [HMK.out]; exact HLS.out
        rw [e, ints_app, List.length_append, stepTo_len]
        exact hown1
      have HGW : Hid (w.grownBy w3 none) := grown_low HGR.out hHeld (fun g hg => by have := (HO1.out.lt g hg).1; omega)
      have HA3 : Hid (w3.cell? ⟨w.heap.size, 3, none⟩ = some (.slice (some ⟨b, off, none⟩) ss.length sc)) := far_cell hHeld A3.out (fun e => NB0.out e)
      clear hK K hHeld1 hown1 hgrow hat hlt4 hi hz0 hz1 hz2
      try simp only [Go.Act.put, List.setIfInBounds_toArray, List.set_cons_zero, List.set_cons_succ]
      refine wpAnyH_take (i := 15) (v := .slice (some ⟨gg, 0, none⟩) ((strL kind ss k).length + (S' + 1)) cap2) rfl (by kernel_rfl) (by kernel_rfl) (by kernel_rfl) (fun _ _ _ h => h) (Or.inl ⟨by rfl, fun V hV => ?_⟩) (by assumption) ?_
      · clear hV
        clear hHeld
        go_simp
      simp only [Go.Act.put, List.setIfInBounds_toArray, List.set_cons_zero, List.set_cons_succ]
      refine wpAnyH_done (by kernel_rfl) ?_ _
      refine NoPanic.normal ?_
      clear hHeld HO1 HCE2 HLN P0 P1 P2 P3 P4 P5 P6 R0 R1 R2 R3 R4 R5 R6
      go_wp2_with fail
      go_roundw
      case rel => exact ⟨m, m + 1, _, rfl, by go_num, rfl, hlt2, HN2.out, HGW.out, HA3.out⟩
      case measure => simp [intOf]; omega
    · have hke : k = ss.length - 1 := by have := hmk.out; have := hk.out; omega
      have HOW : Hid (wr.ownsRow (w.heap.size + 1) 3 1 u (streamS kind ss).length (ints (streamS kind ss))) := by
        show World.ownsRow _ _ _ _ _ _ _
        unfold streamS; rw [← hke]; exact hown.out
      have HG := Lib.hid hg.out
      clear hown hg hke
      go_wp2_with fail
      go_ret2
      exact ⟨⟨_, rfl, HOW.out⟩, HG.out⟩

set_option maxRecDepth 100000 in
set_option maxHeartbeats 1600000 in
theorem RStream_any (a : Act) (kind : Int) (w : World) (ha : ActAt w a) {L : List Int} {E : Int} (hE : Hid (streamOut a kind = (L, E))) :
    Calls Try.prog 85 #[a.val, .int .i64 kind] w fun x w' => (∃ v, x = .returned (.tuple #[v, .int .i64 E]) ∧ w'.ownsRow w.heap.size 3 1 v L.length (ints L)) ∧ w.grownBy w' none := by
  obtain ⟨ce, hce⟩ : ∃ e, chkE a = e := ⟨_, rfl⟩
  have hv := hE.out
  unfold streamOut at hv
  rw [hce] at hv
  have HCE := Lib.hid hce; have HA := Lib.hid ha
  have hok : ce = 0 → SOk a.ss := fun h => sok_of (chk_ok (hce.trans h))
  obtain ⟨nm, sp, st, so, sc, ss, lo, lc, ls, to_, tc, ts⟩ := a
  simp only [Act.val] at *
  clear hE hce ha
  have GB : Hid (w.grownBy (w.alloc (.cells #[.string nm, .int .i64 sp, .int .i64 st, .slice so ss.length sc, .slice lo ls.length lc, .slice to_ ts.length tc] 42)) none) := World.grownBy_alloc _ _ _
  by_cases c1 : ce = 0
  · rw [if_pos c1] at hv
    subst c1
    have HS := Lib.hid (hok rfl)
    clear hok
    by_cases c2 : 1 ≤ kind ∧ kind ≤ 5
    · rw [if_pos c2] at hv
      simp only [Prod.mk.injEq] at hv
      obtain ⟨rfl, rfl⟩ := hv
      exact (RStream_ok nm sp st so sc ss lo lc ls to_ tc ts kind c2.1 c2.2 w HA HCE HS).mono fun e w' ⟨⟨v, h, ho⟩, hg⟩ => ⟨⟨v, h, ho.1, ho.2.imp id fun ⟨g, cap, cur, h1, h2, h3⟩ => ⟨g, cap, cur, h1, by omega, h3⟩⟩, hg⟩
    · rw [if_neg c2] at hv
      simp only [Prod.mk.injEq] at hv
      obtain ⟨rfl, rfl⟩ := hv
      by_cases c3 : kind < 1
      · clear c2
        go_enter Try.func85, Try.ntmps85
        go_wp2_with fail
        refine (rcheck_any ⟨nm, sp, st, so, sc, ss, lo, lc, ls, to_, tc, ts⟩ _ (HA.out.grown GB.out) HCE).mono ?_; rintro e w1 ⟨rfl, hg1⟩
        have G1 := Lib.hid (grown_trans GB.out hg1)
        clear hg1
        go_wp2_with fail
        go_ret2
        exact ⟨⟨_, rfl, World.ownsRow_nil _ _ _ _⟩, G1.out⟩
      · have c4 : 5 < kind := by omega
        clear c2
        go_enter Try.func85, Try.ntmps85
        go_wp2_with fail
        refine (rcheck_any ⟨nm, sp, st, so, sc, ss, lo, lc, ls, to_, tc, ts⟩ _ (HA.out.grown GB.out) HCE).mono ?_; rintro e w1 ⟨rfl, hg1⟩
        have G1 := Lib.hid (grown_trans GB.out hg1)
        clear hg1
        go_wp2_with fail
        go_ret2
        exact ⟨⟨_, rfl, World.ownsRow_nil _ _ _ _⟩, G1.out⟩
  · rw [if_neg c1] at hv
    simp only [Prod.mk.injEq] at hv
    obtain ⟨rfl, rfl⟩ := hv
    have hne : (ce != 0) = true := by simpa using c1
    clear c1 hok
    go_enter Try.func85, Try.ntmps85
    go_wp2_with fail
    refine (rcheck_any ⟨nm, sp, st, so, sc, ss, lo, lc, ls, to_, tc, ts⟩ _ (HA.out.grown GB.out) HCE).mono ?_; rintro e w1 ⟨rfl, hg1⟩
    have G1 := Lib.hid (grown_trans GB.out hg1)
    clear hg1
    go_wp2_with fail
    go_ret2
    exact ⟨⟨_, rfl, World.ownsRow_nil _ _ _ _⟩, G1.out⟩

end Go.Proofs.Ytmfnphknoclhfaa
