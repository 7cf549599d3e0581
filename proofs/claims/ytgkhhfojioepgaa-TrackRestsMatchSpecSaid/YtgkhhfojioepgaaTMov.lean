/- Moving of the program, for any activity. -/
import Derived.Test.YtgkhhfojioepgaaTMovP
import Derived.Test.YtgkhhfojioepgaaTSpSort
import Derived.Test.YtgkhhfojioepgaaOrdA
import Derived.Test.YtgkhhfojioepgaaTDelF
namespace Go.Proofs.Ytgkhhfojioepgaa
open Go.RowKit
set_option linter.unusedSimpArgs false
set_option linter.unusedVariables false

theorem grown_anyM {w wt w2 : World} {r : Option Nat} (h : w.grownBy wt none) (g : wt.grownBy w2 r) (hr : ∀ k, r = some k → w.heap.size ≤ k) : w.grownBy w2 none :=
  ⟨g.os.trans h.os, g.tape.trans h.tape, g.output.trans h.output, Nat.le_trans h.size g.size, fun i hi _ => (g.block i (by have := h.size; omega) (fun e => by have := hr i e.symm; omega)).trans (h.block i hi (by simp))⟩
theorem blk_cell {w : World} {b : Nat} {l : Array Value} {t : TypeId} (h : w.heap[b]? = some (.cells l t (0, 0))) (k : Nat) (v : Value) (hk : l[k]? = some v) : w.cell? ⟨b, k, none⟩ = some v := by
  simp [World.cell?, h, hk]
theorem own_blkB {w : World} {base s n : Nat} {e : TypeId} {v : Value} {xs : List Value} (h : w.ownsRow base e s v n xs) : ∀ k, v.ownBlock = some k → base ≤ k := by
  intro k hk
  rcases h.2 with ⟨e, _⟩ | ⟨g, cap, cur, e, hb, _⟩
  · subst e; simp [Value.ownBlock] at hk
  · subst e; simp [Value.ownBlock] at hk; omega
theorem act_cells {w : World} {b : Nat} {n s d o l g : Value} {t : TypeId} (h : w.heap[b]? = some (.cells #[n, s, d, o, l, g] t (0, 0))) : w.cell? ⟨b, 0, none⟩ = some n ∧ w.cell? ⟨b, 1, none⟩ = some s ∧ w.cell? ⟨b, 2, none⟩ = some d ∧ w.cell? ⟨b, 3, none⟩ = some o ∧ w.cell? ⟨b, 4, none⟩ = some l ∧ w.cell? ⟨b, 5, none⟩ = some g := ⟨blk_cell h 0 _ rfl, blk_cell h 1 _ rfl, blk_cell h 2 _ rfl, blk_cell h 3 _ rfl, blk_cell h 4 _ rfl, blk_cell h 5 _ rfl⟩

set_option maxRecDepth 100000 in
set_option maxHeartbeats 3200000 in
theorem Moving_any (a : Act) (gap slow least : Int) (w : World) (ha : ActAt w a) {V E : Int} (hE : Hid (movO a gap slow least = (V, E))) :
    Calls Try.prog 25 #[a.val, .int .i64 gap, .int .i64 slow, .int .i64 least] w fun x w' => x = .returned (.tuple #[.int .i64 V, .int .i64 E]) ∧ w.grownBy w' none := by
  obtain ⟨i0, hi, hz0, hz1, hz2⟩ := info_parts zero_sp
  obtain ⟨X, E1, hI⟩ : ∃ X E1, idleE a gap = (X, E1) := ⟨_, _, rfl⟩
  obtain ⟨Y, E2, hS⟩ : ∃ Y E2, stillE a slow least = (Y, E2) := ⟨_, _, rfl⟩
  have hv := hE.out
  unfold movO at hv
  rw [hI, hS] at hv
  simp only at hv
  have HI := Lib.hid hI; have HS := Lib.hid hS; have HA := Lib.hid ha; have HV := Lib.hid hv
  have HIi := Lib.hid hi; have HZ0 := Lib.hid hz0; have HZ1 := Lib.hid hz1; have HZ2 := Lib.hid hz2
  clear hE ha hI hS hv hi hz0 hz1 hz2
  obtain ⟨nm, sp, st, so, sc, ss, lo, lc, ls, to_, tc, ts⟩ := a
  have G1 : Hid (w.grownBy (w.alloc (.cells #[.string nm, .int .i64 sp, .int .i64 st, .slice so ss.length sc, .slice lo ls.length lc, .slice to_ ts.length tc] 26)) none) := World.grownBy_alloc _ _ _
  have ZB : Hid ((w.alloc (.cells #[.string nm, .int .i64 sp, .int .i64 st, .slice so ss.length sc, .slice lo ls.length lc, .slice to_ ts.length tc] 26)).heap[w.heap.size]? = some (.cells #[.string nm, .int .i64 sp, .int .i64 st, .slice so ss.length sc, .slice lo ls.length lc, .slice to_ ts.length tc] 26 (0, 0))) := World.alloc_heap_new w _
  simp only [Act.val] at *
  go_enter Try.func25, Try.ntmps25
  go_wp2_with fail
  refine (Idle_any ⟨nm, sp, st, so, sc, ss, lo, lc, ls, to_, tc, ts⟩ gap _ (HA.out.grown G1.out) HI).mono ?_; rintro e w1 ⟨⟨v1, rfl, ho1⟩, hg1⟩
  have HO1 := Lib.hid (own_baseR ho1 (show w.heap.size + 1 ≤ _ by simp))
  have HB1 : Hid (w1.heap[w.heap.size]? = some (.cells #[.string nm, .int .i64 sp, .int .i64 st, .slice so ss.length sc, .slice lo ls.length lc, .slice to_ ts.length tc] 26 (0, 0))) := by
    have q := hg1.block w.heap.size (by simp) (by simp)
    show _ = _; rw [q]; exact ZB.out
  have HG1 : Hid (w.grownBy w1 none) := grown_trans G1.out hg1
  clear ho1 hg1
  by_cases c1 : E1 = 0
  · subst c1
    have hv := HV.out
    rw [if_pos rfl] at hv
    have HV2 := Lib.hid hv
    clear HV hv
    obtain ⟨z0, z1, z2, z3, z4, z5⟩ := act_cells HB1.out
    go_wp2_with fail
    refine (Still_any ⟨nm, sp, st, so, sc, ss, lo, lc, ls, to_, tc, ts⟩ slow least _ (HA.out.grown HG1.out) HS).mono ?_; rintro e w2 ⟨⟨v2, rfl, ho2⟩, hg2⟩
    have HO2 := Lib.hid (own_baseR ho2 (show w.heap.size + 1 ≤ w1.heap.size from lt_of_block HB1.out))
    have HLB := Lib.hid (Nat.le_trans (show w.heap.size + 1 ≤ w1.heap.size from lt_of_block HB1.out) hg2.size)
    have HO1' := Lib.hid (keptR HO1.out hg2)
    have HB2 : Hid (w2.heap[w.heap.size]? = some (.cells #[.string nm, .int .i64 sp, .int .i64 st, .slice so ss.length sc, .slice lo ls.length lc, .slice to_ ts.length tc] 26 (0, 0))) := by
      have q := hg2.block w.heap.size (lt_of_block HB1.out) (by simp)
      show _ = _; rw [q]; exact HB1.out
    have HG2 : Hid (w.grownBy w2 none) := grown_trans HG1.out hg2
    clear ho2 hg2 z0 z1 z2 z3 z4 z5 HO1 HB1 HG1
    by_cases c2 : E2 = 0
    · subst c2
      have hv := HV2.out
      rw [if_pos rfl] at hv
      simp only [Prod.mk.injEq] at hv
      obtain ⟨hv1, rfl⟩ := hv
      have HRX := Lib.hid (idle_rests HI.out); have HRY := Lib.hid (still_rests HS.out)
      have HVV := Lib.hid hv1
      clear HV2 hv1
      have hlx := HRX.out.len; have hly := HRY.out.len; have hl20 := HRX.out.ok.len
      simp only at hlx hly hl20
      obtain ⟨ao2, cp2, rfl, hcp2, hr2, hbk2⟩ := own_rows spCs_len HO2.out
      have HR2 := Lib.hid (rows_src spCs_len (by decide) hr2)
      clear hcp2 hr2 hbk2
      go_wp2_with (at_builtin; refine wpList_append_srcO _ rfl _ _ 37 rfl (w.heap.size + 1) 45 i0 (.agg #[.int .i64 0, .int .i64 0]) 2 16 Try.underlying37 HIi.out HZ0.out HZ1.out HZ2.out rfl (by decide) _ _ _ rfl HO1'.out _ _ _ _ rfl HR2.out (mflat_len _ _ spCs_len _) (fun u hu => by
        obtain ⟨x, _, hx⟩ := List.mem_flatMap.1 hu
        simp only [spCs, List.mem_cons, List.not_mem_nil, or_false] at hx
        rcases hx with rfl | rfl <;> rfl) (by unfold maxLen; omega) (by omega) HLB.out ?_; intro v3 w3 ho3 hg3)
      have HO3 : Hid (w3.ownsRow (w.heap.size + 1) 45 2 v3 (X ++ Y).length ((X ++ Y).flatMap spCs)) := by
        show World.ownsRow _ _ _ _ _ _ _
        rw [List.length_append, List.flatMap_append]; exact ho3
      have HB3 : Hid (w3.heap[w.heap.size]? = some (.cells #[.string nm, .int .i64 sp, .int .i64 st, .slice so ss.length sc, .slice lo ls.length lc, .slice to_ ts.length tc] 26 (0, 0))) := by
        have q := hg3.block w.heap.size (lt_of_block HB2.out) (fun e => by have := own_blkB HO1'.out _ e.symm; omega)
        show _ = _; rw [q]; exact HB2.out
      have HG3 := Lib.hid (grown_anyM HG2.out hg3 (fun k e => Nat.le_of_succ_le (own_blkB HO1'.out _ e)))
      clear ho3 hg3 HO1' HO2 HR2 HB2 HG2
      go_wp2_with fail
      refine (sortSp_is _ _ (X ++ Y) (by simp; omega) _ HO3.out).mono ?_
      rintro e w4 ⟨rfl, ⟨S, hperm, hpw, hlen, ho4⟩, hg4⟩
      have HB4 : Hid (w4.heap[w.heap.size]? = some (.cells #[.string nm, .int .i64 sp, .int .i64 st, .slice so ss.length sc, .slice lo ls.length lc, .slice to_ ts.length tc] 26 (0, 0))) := by
        have q := hg4.block w.heap.size (lt_of_block HB3.out) (fun e => by have := own_blkB HO3.out _ e.symm; omega)
        show _ = _; rw [q]; exact HB3.out
      have HG4 := Lib.hid (grown_anyM HG3.out hg4 (fun k e => Nat.le_of_succ_le (own_blkB HO3.out _ e)))
      rw [← hlen] at ho4
      obtain ⟨ao4, cp4, rfl, hcp4, hr4, hbk4⟩ := own_rows spCs_len ho4
      have HR4 := Lib.hid hr4
      have HSB : Hid (∀ x ∈ S, 0 ≤ x.fr ∧ x.fr ≤ 1000000 ∧ -1 ≤ x.to_ ∧ x.to_ ≤ 1000000) := fun x hx => by
        rcases List.mem_append.1 (hperm.mem_iff.1 hx) with h | h
        · exact HRX.out.bd x h
        · exact HRY.out.bd x h
      have HFIN : Hid ((movF (spanL ss) S).1 = V) := by
        show _ = _; rw [movSp_is HRX.out HRY.out hperm hpw]; exact HVV.out
      have hl4 : S.length ≤ 40000 := by rw [hlen, List.length_append]; omega
      clear hperm hpw hlen ho4 hg4 hcp4 hr4 hbk4 HO3 HB3 HG3 HVV
      obtain ⟨z0, z1, z2, z3, z4, z5⟩ := act_cells HB4.out
      obtain ⟨N, hN⟩ : ∃ N, spanL ss = N := ⟨_, rfl⟩
      have hN2 : 0 ≤ spanL ss ∧ spanL ss ≤ 1000000 := (span_tm HRX.out.ok).2
      rw [hN] at hN2
      have HN := Lib.hid hN
      rw [hN] at HFIN
      clear hN
      go_wp2_with fail
      refine (span_any ⟨nm, sp, st, so, sc, ss, lo, lc, ls, to_, tc, ts⟩ (by simp only; omega) _ (HA.out.hs.grown HG4.out) HN).mono ?_; rintro e w5 ⟨rfl, hg5⟩
      have HR5 := Lib.hid (HR4.out.grown hg5)
      have HG5 := Lib.hid (grown_trans HG4.out hg5)
      clear hg5 HR4 HG4 HB4 z0 z1 z2 z3 z4 z5
      go_wp2_with fail
      go_loopw [14, 15, 46] (fun mv ev iv wr => ∃ k : Nat, k ≤ S.length ∧ iv = .int .i64 k ∧ mv = .int .i64 (movF N (S.take k)).1 ∧ ev = .int .i64 (movF N (S.take k)).2 ∧ Hid (w.grownBy wr none) ∧ Hid (RowsAt spCs 2 wr ao4 S)) (fun _ _ iv _ => S.length - (intOf iv).toNat)
      case atStart => exact ⟨0, Nat.zero_le _, rfl, rfl, rfl, HG5.out, HR5.out⟩
      case round =>
        obtain ⟨k, hk, rfl, rfl, rfl, hg, hr⟩ := hrel
        have hbd := mov_bd hN2.1 hN2.2 HSB.out k hk
        by_cases hlt : k < S.length
        · have hx := HSB.out _ (List.getElem_mem hlt)
          have hnx : movF N (S.take (k + 1)) = movS (movF N (S.take k)) S[k] := by rw [List.take_succ_eq_append_getElem hlt, mov_snoc]
          obtain ⟨g, o, rfl, hc⟩ := sp_at hr.out (by omega)
          obtain ⟨c0, c1⟩ := hc k hlt
          generalize S[k] = x at hx hnx c0 c1
          obtain ⟨xf, xt⟩ := x
          generalize movF N (S.take k) = q at *
          obtain ⟨m, e⟩ := q
          unfold movS at hnx
          simp only at hbd hx hnx c0 c1
          have HNX := Lib.hid hnx
          clear hc hnx
          have GA := Lib.hid (grown_trans hg.out (World.grownBy_alloc wr (.cells #[.int .i64 xf, .int .i64 xt] 45) none))
          have RA := Lib.hid (hr.out.grown (World.grownBy_alloc wr (.cells #[.int .i64 xf, .int .i64 xt] 45) none))
          clear hg hr
          go_wp2_with fail
          go_roundw
          case rel => exact ⟨k + 1, by omega, by go_num, by rw [HNX.out], by rw [HNX.out], GA.out, RA.out⟩
          case measure => simp [intOf]; omega
        · have e : S.take k = S := List.take_of_length_le (by omega)
          have HF : Hid ((movF N (S.take k)).1 = V) := by show _ = _; rw [e]; exact HFIN.out
          generalize (movF N (S.take k)).1 = z at *
          generalize (movF N (S.take k)).2 = z2 at *
          clear e
          have hv := HF.out
          subst hv
          go_wp2_with fail
          go_ret2
          exact ⟨rfl, hg.out⟩
    · have hv := HV2.out
      rw [if_neg c2] at hv
      simp only [Prod.mk.injEq] at hv
      obtain ⟨rfl, rfl⟩ := hv
      have hne : (E2 != 0) = true := by simpa using c2
      clear c2
      go_wp2_with fail
      go_ret2
      exact ⟨rfl, HG2.out⟩
  · have hv := HV.out
    rw [if_neg c1] at hv
    simp only [Prod.mk.injEq] at hv
    obtain ⟨rfl, rfl⟩ := hv
    have hne : (E1 != 0) = true := by simpa using c1
    clear c1
    go_wp2_with fail
    go_ret2
    exact ⟨rfl, HG1.out⟩
end Go.Proofs.Ytgkhhfojioepgaa
