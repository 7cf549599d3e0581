/- Idle of the reference, for any activity. -/
import Derived.Test.YtgkhhfojioepgaaTIdle
import Derived.Test.YtgkhhfojioepgaaTRRows
import Derived.Test.YtgkhhfojioepgaaTRChk
import Derived.Deep.AppendLies
namespace Go.Proofs.Ytgkhhfojioepgaa
open Go.RowKit
set_option linter.unusedSimpArgs false
set_option linter.unusedVariables false

attribute [local go_sem] Oper.semAt_some
theorem info_mark : (Try.prog.info? 4).map (fun i => (i.zero, i.size, i.bytes)) = some (some (.bool false), 1, 1) := by kernel_rfl
theorem routsideR_no (n lo hi : Int) (h0 : lo ≤ n) (h1 : n ≤ hi) (w : World) : Calls Try.prog 59 #[.int .i64 n, .int .i64 lo, .int .i64 hi] w fun e w' => e = .returned (.bool false) ∧ w = w' := by
  have e1 : decide (n < lo) = false := by simp; omega
  go_enter Try.func59, Try.ntmps59
  go_wp2
  go_ret
  exact ⟨ret_bool (by first | rfl | (simp; omega)), rfl⟩
theorem routsideR_yes (n lo hi : Int) (h : n < lo ∨ hi < n) (w : World) : Calls Try.prog 59 #[.int .i64 n, .int .i64 lo, .int .i64 hi] w fun e w' => e = .returned (.bool true) ∧ w = w' := by
  by_cases h0 : n < lo
  · clear h
    go_enter Try.func59, Try.ntmps59
    go_wp2
    go_ret
    exact ⟨ret_bool (by first | rfl | (simp; omega)), rfl⟩
  · have h1 : hi < n := by omega
    clear h
    go_enter Try.func59, Try.ntmps59
    go_wp2
    go_ret
    exact ⟨ret_bool (by first | rfl | (simp; omega)), rfl⟩
def marksV (M : Nat → Bool) (k : Nat) : List Value := (List.range k).map fun j => Value.bool (M j)
theorem marksV_succ (M : Nat → Bool) (k : Nat) : marksV M (k + 1) = marksV M k ++ [.bool (M k)] := by unfold marksV; rw [List.range_succ, List.map_append]; rfl
theorem grown_anyR {w wt w2 : World} {r : Option Nat} (h : w.grownBy wt none) (g : wt.grownBy w2 r) (hr : ∀ k, r = some k → w.heap.size ≤ k) : w.grownBy w2 none :=
  ⟨g.os.trans h.os, g.tape.trans h.tape, g.output.trans h.output, Nat.le_trans h.size g.size, fun i hi _ => (g.block i (by have := h.size; omega) (fun e => by have := hr i e.symm; omega)).trans (h.block i hi (by simp))⟩
theorem marks_bl {w : World} {base n : Nat} {v : Value} {M : Nat → Bool} (h : w.ownsRow base 4 1 v n (marksV M n)) : ∃ mo mc, v = .slice mo n mc ∧ BlAt w mo n M := by
  rcases h.2 with ⟨hv, h0⟩ | ⟨g, cap, cur, hv, hb, hg, rest⟩
  · subst h0
    exact ⟨none, 0, hv, fun h => absurd h (by omega)⟩
  · refine ⟨some ⟨g, 0, none⟩, cap, hv, fun _ => ⟨g, rfl, fun j hj => ?_⟩⟩
    have := h.cells (g := g) (by rw [hv]; rfl) j (.bool (M j)) (by simp [marksV, hj])
    rcases Nat.eq_zero_or_pos j with h0 | h0
    · subst h0; simpa [Addr.add] using this
    · simpa [Addr.add, Nat.ne_of_gt h0] using this
set_option maxRecDepth 100000 in
set_option maxHeartbeats 6400000 in
theorem rIdle_any (a : Act) (gap : Int) (w : World) (ha : ActAt w a) {L : List SpV} {E : Int} (hE : Hid (idleE a gap = (L, E))) :
    Calls Try.prog 22 #[a.val, .int .i64 gap] w fun x w' => (∃ v, x = .returned (.tuple #[v, .int .i64 E]) ∧ w'.ownsRow w.heap.size 45 2 v L.length (L.flatMap spCs)) ∧ w.grownBy w' none := by
  obtain ⟨ce, hce⟩ : ∃ e, chkE a = e := ⟨_, rfl⟩
  have hv := hE.out
  unfold idleE at hv
  rw [hce] at hv
  have HCE := Lib.hid hce; have HA := Lib.hid ha
  obtain ⟨nm, sp, st, so, sc, ss, lo, lc, ls, to_, tc, ts⟩ := a
  have G1 : Hid (w.grownBy (w.alloc (.cells #[.string nm, .int .i64 sp, .int .i64 st, .slice so ss.length sc, .slice lo ls.length lc, .slice to_ ts.length tc] 26)) none) := World.grownBy_alloc _ _ _
  simp only [Act.val] at *
  clear hE ha
  by_cases c1 : ce = 0
  · rw [if_pos c1] at hv
    subst c1
    have hok := chk_ok hce
    have HS : Hid (SOk ss) := sok_of hok
    have hl : (ss.length : Int) ≤ 20000 := HS.out.len
    have HV := Lib.hid hv
    clear hce hok hv
    by_cases c0 : 1 ≤ gap ∧ gap ≤ 1000000
    · have hv := HV.out
      rw [if_pos c0] at hv
      simp only [Prod.mk.injEq] at hv
      obtain ⟨rfl, rfl⟩ := hv
      obtain ⟨M, hM⟩ : ∃ M, idleM ss gap = M := ⟨_, rfl⟩
      rw [hM]
      have HMM := Lib.hid hM
      go_enter Try.func22, Try.ntmps22
      go_wp2_with fail
      refine (rcheck_any ⟨nm, sp, st, so, sc, ss, lo, lc, ls, to_, tc, ts⟩ _ (HA.out.grown G1.out) HCE).mono ?_; rintro e w2 ⟨rfl, hg2⟩
      have HG2 : Hid (w.grownBy w2 none) := grown_trans G1.out hg2
      have HBX2 : Hid (w2.heap[w.heap.size]? = some (.cells #[.string nm, .int .i64 sp, .int .i64 st, .slice so ss.length sc, .slice lo ls.length lc, .slice to_ ts.length tc] 26 (0, 0))) := mblock_at (World.alloc_heap_new w _) hg2 (by simp)
      clear hg2
      go_wp2_with fail
      refine (routsideR_no gap 1 1000000 c0.1 c0.2 _).mono ?_; rintro e w3 ⟨rfl, rfl⟩
      obtain ⟨j0, ji, jz0, jz1, jz2⟩ := info_parts info_mark
      have HJI := Lib.hid ji; have HJ0 := Lib.hid jz0; have HJ1 := Lib.hid jz1; have HJ2 := Lib.hid jz2
      clear hM HV ji jz0 jz1 jz2
      go_wp2_with fail
      go_loopw [7, 8] (fun mv iv wr => ∃ (k : Nat) (v : Value), k ≤ ss.length - 1 ∧ v = mv ∧ iv = .int .i64 ((k : Int) + 1) ∧ Hid (w.grownBy wr none) ∧ Hid (wr.heap[w.heap.size]? = some (.cells #[.string nm, .int .i64 sp, .int .i64 st, .slice so ss.length sc, .slice lo ls.length lc, .slice to_ ts.length tc] 26 (0, 0))) ∧ Hid (wr.ownsRow w.heap.size 4 1 v k (marksV M k)))
        (fun _ iv _ => ss.length - (intOf iv).toNat)
      case atStart => exact ⟨0, _, Nat.zero_le _, rfl, rfl, HG2.out, HBX2.out, World.ownsRow_nil _ _ _ _⟩
      case round =>
        obtain ⟨k, v, hk, rfl, rfl, HG, hbx, ho⟩ := hrel
        have b3 : Hid (wr.cell? ⟨w.heap.size, 3, none⟩ = some (.slice so ss.length sc)) := mblock_cell hbx.out 3 _ rfl
        have ji := HJI.out; have jz0 := HJ0.out; have jz1 := HJ1.out; have jz2 := HJ2.out
        by_cases hlt : k + 1 < ss.length
        · obtain ⟨gb, ob, rfl, hc⟩ := smps_at1 HA.out.hs (by show 0 < ss.length; omega)
          have hkL : k < ss.length := by omega
          obtain ⟨ti, hti⟩ : ∃ t, tmS ss k = t := ⟨_, rfl⟩
          obtain ⟨tj, htj⟩ : ∃ t, tmS ss (k + 1) = t := ⟨_, rfl⟩
          have bi := HS.out.inn k hkL; have bj := HS.out.inn (k + 1) hlt
          have bti : 0 ≤ ti ∧ ti ≤ 1000000 := by rw [← hti]; exact ⟨bi.1, bi.2.1⟩
          have btj : 0 ≤ tj ∧ tj ≤ 1000000 := by rw [← htj]; exact ⟨bj.1, bj.2.1⟩
          have hci0 := (hc k hkL).1
          have hgbl : gb < w.heap.size := World.block_lt_of_cell? w _ hci0
          have ncj : Hid (some gb ≠ v.ownBlock) := fun e => by have := (ho.out.lt gb e.symm).1; omega
          have nb3 : Hid (some w.heap.size ≠ v.ownBlock) := fun e => own_far ho.out hbx.out (by decide) e.symm
          have ci : Hid (wr.cell? ⟨gb, ob + k * 7, none⟩ = some (.int .i64 ti)) := by
            have q := grown_cell HG.out hci0
            rw [← smpD_at hkL] at q
            show _ = _
            rw [q, ← hti]; rfl
          have cj : Hid (wr.cell? ⟨gb, ob + (k + 1) * 7, none⟩ = some (.int .i64 tj)) := by
            have q := grown_cell HG.out (hc (k + 1) hlt).1
            rw [← smpD_at hlt] at q
            show _ = _
            rw [q, ← htj]; rfl
          have HMK : Hid (M k = decide (gap < tj - ti)) := by
            show _ = _
            rw [← HMM.out, ← hti, ← htj]; rfl
          have w1 : IntKind.i64.wrap (tj - ti) = tj - ti := IntWalk.i64_in _ (by omega)
          have w2 : IntKind.i64.wrap ((k : Int) + 1 - 1) = (k : Int) := by rw [show (k : Int) + 1 - 1 = (k : Int) by omega]; exact IntWalk.i64_in _ (by omega)
          have w3 : IntKind.i64.wrap (k : Int) = (k : Int) := IntWalk.i64_in _ (by omega)
          have q1 : (0 : Int) ≤ (k : Int) := by omega
          have q2 : (k : Int) < (ss.length : Int) := by omega
          have q3 : (0 : Int) ≤ (k : Int) + 1 := by omega
          have q4 : (k : Int) + 1 < (ss.length : Int) := by omega
          have hk20 : k ≤ 20000 := by omega
          have bq := b3.out
          clear hc bi bj hti htj hci0 hgbl
          go_wp2_with fail
          clear bq
          refine wp_region_noPanic ?_
          refine wp_region_held_drew (S := fun V => World.grownBy wr V v.ownBlock) (by kernel_rfl) (⟨rfl, rfl, rfl, Nat.le_refl _, fun _ _ _ => rfl⟩) (fun hHeld => ?_)
          refine wpAnyH_take (i := 0) (oi := ?oia0) (v := v) ?hia0 (by kernel_rfl) (by kernel_rfl) (by kernel_rfl) ?hqa0 ?hya0 (by assumption) ?resta0
          case hia0 => simp only [List.getElem?_toArray, List.getElem?_cons_succ, List.getElem?_cons_zero, Option.some.injEq]; rfl
          case hqa0 => exact fun _ _ _ h => h
          case hya0 =>
            refine Or.inl ⟨by kernel_rfl, fun V hV => ?_⟩
            clear hV
            clear hHeld
            go_simp
          try simp only [Go.Act.put, List.setIfInBounds_toArray, List.set_cons_zero, List.set_cons_succ]
          refine wpAnyH_take (i := 1) (oi := ?oia1) (v := .pointer (some ⟨w.heap.size, 3, none⟩)) ?hia1 (by kernel_rfl) (by kernel_rfl) (by kernel_rfl) ?hqa1 ?hya1 (by assumption) ?resta1
          case hia1 => simp only [List.getElem?_toArray, List.getElem?_cons_succ, List.getElem?_cons_zero, Option.some.injEq]; rfl
          case hqa1 => exact fun _ _ _ h => h
          case hya1 =>
            refine Or.inl ⟨by kernel_rfl, fun V hV => ?_⟩
            clear hV
            clear hHeld
            go_simp
          try simp only [Go.Act.put, List.setIfInBounds_toArray, List.set_cons_zero, List.set_cons_succ]
          refine wpAnyH_take (i := 2) (oi := ?oia2) (v := .slice (some ⟨gb, ob, none⟩) ss.length sc) ?hia2 (by kernel_rfl) (by kernel_rfl) (by kernel_rfl) ?hqa2 ?hya2 (by assumption) ?resta2
          case hia2 => simp only [List.getElem?_toArray, List.getElem?_cons_succ, List.getElem?_cons_zero, Option.some.injEq]; rfl
          case hqa2 => exact fun _ _ _ h => h
          case hya2 =>
            refine Or.inl ⟨by kernel_rfl, fun V hV => ?_⟩
            have qq := hV.cell b3.out nb3.out; clear hV
            clear hHeld
            go_simp
          try simp only [Go.Act.put, List.setIfInBounds_toArray, List.set_cons_zero, List.set_cons_succ]
          refine wpAnyH_take (i := 3) (oi := ?oia3) (v := .int .i64 ((k : Int) + 1)) ?hia3 (by kernel_rfl) (by kernel_rfl) (by kernel_rfl) ?hqa3 ?hya3 (by assumption) ?resta3
          case hia3 => simp only [List.getElem?_toArray, List.getElem?_cons_succ, List.getElem?_cons_zero, Option.some.injEq]; rfl
          case hqa3 => exact fun _ _ _ h => h
          case hya3 =>
            refine Or.inl ⟨by kernel_rfl, fun V hV => ?_⟩
            clear hV
            clear hHeld
            go_simp
          try simp only [Go.Act.put, List.setIfInBounds_toArray, List.set_cons_zero, List.set_cons_succ]
          refine wpAnyH_take (i := 4) (oi := ?oia4) (v := .pointer (some ⟨gb, ob + (k + 1) * 7, none⟩)) ?hia4 (by kernel_rfl) (by kernel_rfl) (by kernel_rfl) ?hqa4 ?hya4 (by assumption) ?resta4
          case hia4 => simp only [List.getElem?_toArray, List.getElem?_cons_succ, List.getElem?_cons_zero, Option.some.injEq]; rfl
          case hqa4 => exact fun _ _ _ h => h
          case hya4 =>
            refine Or.inl ⟨by kernel_rfl, fun V hV => ?_⟩
            clear hV
            clear hHeld
            go_simp
          try simp only [Go.Act.put, List.setIfInBounds_toArray, List.set_cons_zero, List.set_cons_succ]
          refine wpAnyH_take (i := 5) (oi := ?oia5) (v := .pointer (some ⟨gb, ob + (k + 1) * 7, none⟩)) ?hia5 (by kernel_rfl) (by kernel_rfl) (by kernel_rfl) ?hqa5 ?hya5 (by assumption) ?resta5
          case hia5 => simp only [List.getElem?_toArray, List.getElem?_cons_succ, List.getElem?_cons_zero, Option.some.injEq]; rfl
          case hqa5 => exact fun _ _ _ h => h
          case hya5 =>
            refine Or.inl ⟨by kernel_rfl, fun V hV => ?_⟩
            clear hV
            clear hHeld
            go_simp
          try simp only [Go.Act.put, List.setIfInBounds_toArray, List.set_cons_zero, List.set_cons_succ]
          refine wpAnyH_take (i := 6) (oi := ?oia6) (v := .int .i64 tj) ?hia6 (by kernel_rfl) (by kernel_rfl) (by kernel_rfl) ?hqa6 ?hya6 (by assumption) ?resta6
          case hia6 => simp only [List.getElem?_toArray, List.getElem?_cons_succ, List.getElem?_cons_zero, Option.some.injEq]; rfl
          case hqa6 => exact fun _ _ _ h => h
          case hya6 =>
            refine Or.inl ⟨by kernel_rfl, fun V hV => ?_⟩
            have qq := hV.cell cj.out ncj.out; clear hV
            clear hHeld
            go_simp
          try simp only [Go.Act.put, List.setIfInBounds_toArray, List.set_cons_zero, List.set_cons_succ]
          refine wpAnyH_take (i := 7) (oi := ?oia7) (v := .pointer (some ⟨w.heap.size, 3, none⟩)) ?hia7 (by kernel_rfl) (by kernel_rfl) (by kernel_rfl) ?hqa7 ?hya7 (by assumption) ?resta7
          case hia7 => simp only [List.getElem?_toArray, List.getElem?_cons_succ, List.getElem?_cons_zero, Option.some.injEq]; rfl
          case hqa7 => exact fun _ _ _ h => h
          case hya7 =>
            refine Or.inl ⟨by kernel_rfl, fun V hV => ?_⟩
            clear hV
            clear hHeld
            go_simp
          try simp only [Go.Act.put, List.setIfInBounds_toArray, List.set_cons_zero, List.set_cons_succ]
          refine wpAnyH_take (i := 8) (oi := ?oia8) (v := .slice (some ⟨gb, ob, none⟩) ss.length sc) ?hia8 (by kernel_rfl) (by kernel_rfl) (by kernel_rfl) ?hqa8 ?hya8 (by assumption) ?resta8
          case hia8 => simp only [List.getElem?_toArray, List.getElem?_cons_succ, List.getElem?_cons_zero, Option.some.injEq]; rfl
          case hqa8 => exact fun _ _ _ h => h
          case hya8 =>
            refine Or.inl ⟨by kernel_rfl, fun V hV => ?_⟩
            have qq := hV.cell b3.out nb3.out; clear hV
            clear hHeld
            go_simp
          try simp only [Go.Act.put, List.setIfInBounds_toArray, List.set_cons_zero, List.set_cons_succ]
          refine wpAnyH_take (i := 9) (oi := ?oia9) (v := .int .i64 ((k : Int) + 1)) ?hia9 (by kernel_rfl) (by kernel_rfl) (by kernel_rfl) ?hqa9 ?hya9 (by assumption) ?resta9
          case hia9 => simp only [List.getElem?_toArray, List.getElem?_cons_succ, List.getElem?_cons_zero, Option.some.injEq]; rfl
          case hqa9 => exact fun _ _ _ h => h
          case hya9 =>
            refine Or.inl ⟨by kernel_rfl, fun V hV => ?_⟩
            clear hV
            clear hHeld
            go_simp
          try simp only [Go.Act.put, List.setIfInBounds_toArray, List.set_cons_zero, List.set_cons_succ]
          refine wpAnyH_take (i := 10) (oi := ?oia10) (v := .int .i64 (k : Int)) ?hia10 (by kernel_rfl) (by kernel_rfl) (by kernel_rfl) ?hqa10 ?hya10 (by assumption) ?resta10
          case hia10 => simp only [List.getElem?_toArray, List.getElem?_cons_succ, List.getElem?_cons_zero, Option.some.injEq]; rfl
          case hqa10 => exact fun _ _ _ h => h
          case hya10 =>
            refine Or.inl ⟨by kernel_rfl, fun V hV => ?_⟩
            clear hV
            clear hHeld
            go_simp
          try simp only [Go.Act.put, List.setIfInBounds_toArray, List.set_cons_zero, List.set_cons_succ]
          refine wpAnyH_take (i := 11) (oi := ?oia11) (v := .pointer (some ⟨gb, ob + k * 7, none⟩)) ?hia11 (by kernel_rfl) (by kernel_rfl) (by kernel_rfl) ?hqa11 ?hya11 (by assumption) ?resta11
          case hia11 => simp only [List.getElem?_toArray, List.getElem?_cons_succ, List.getElem?_cons_zero, Option.some.injEq]; rfl
          case hqa11 => exact fun _ _ _ h => h
          case hya11 =>
            refine Or.inl ⟨by kernel_rfl, fun V hV => ?_⟩
            clear hV
            clear hHeld
            go_simp
          try simp only [Go.Act.put, List.setIfInBounds_toArray, List.set_cons_zero, List.set_cons_succ]
          refine wpAnyH_take (i := 12) (oi := ?oia12) (v := .pointer (some ⟨gb, ob + k * 7, none⟩)) ?hia12 (by kernel_rfl) (by kernel_rfl) (by kernel_rfl) ?hqa12 ?hya12 (by assumption) ?resta12
          case hia12 => simp only [List.getElem?_toArray, List.getElem?_cons_succ, List.getElem?_cons_zero, Option.some.injEq]; rfl
          case hqa12 => exact fun _ _ _ h => h
          case hya12 =>
            refine Or.inl ⟨by kernel_rfl, fun V hV => ?_⟩
            clear hV
            clear hHeld
            go_simp
          try simp only [Go.Act.put, List.setIfInBounds_toArray, List.set_cons_zero, List.set_cons_succ]
          refine wpAnyH_take (i := 13) (oi := ?oia13) (v := .int .i64 ti) ?hia13 (by kernel_rfl) (by kernel_rfl) (by kernel_rfl) ?hqa13 ?hya13 (by assumption) ?resta13
          case hia13 => simp only [List.getElem?_toArray, List.getElem?_cons_succ, List.getElem?_cons_zero, Option.some.injEq]; rfl
          case hqa13 => exact fun _ _ _ h => h
          case hya13 =>
            refine Or.inl ⟨by kernel_rfl, fun V hV => ?_⟩
            have qq := hV.cell ci.out ncj.out; clear hV
            clear hHeld
            go_simp
          try simp only [Go.Act.put, List.setIfInBounds_toArray, List.set_cons_zero, List.set_cons_succ]
          refine wpAnyH_take (i := 14) (oi := ?oia14) (v := .int .i64 (tj - ti)) ?hia14 (by kernel_rfl) (by kernel_rfl) (by kernel_rfl) ?hqa14 ?hya14 (by assumption) ?resta14
          case hia14 => simp only [List.getElem?_toArray, List.getElem?_cons_succ, List.getElem?_cons_zero, Option.some.injEq]; rfl
          case hqa14 => exact fun _ _ _ h => h
          case hya14 =>
            refine Or.inl ⟨by kernel_rfl, fun V hV => ?_⟩
            clear hV
            clear hHeld
            go_simp
          try simp only [Go.Act.put, List.setIfInBounds_toArray, List.set_cons_zero, List.set_cons_succ]
          refine wpAnyH_take (i := 15) (oi := ?oia15) (v := .int .i64 gap) ?hia15 (by kernel_rfl) (by kernel_rfl) (by kernel_rfl) ?hqa15 ?hya15 (by assumption) ?resta15
          case hia15 => simp only [List.getElem?_toArray, List.getElem?_cons_succ, List.getElem?_cons_zero, Option.some.injEq]; rfl
          case hqa15 => exact fun _ _ _ h => h
          case hya15 =>
            refine Or.inl ⟨by kernel_rfl, fun V hV => ?_⟩
            clear hV
            clear hHeld
            go_simp
          try simp only [Go.Act.put, List.setIfInBounds_toArray, List.set_cons_zero, List.set_cons_succ]
          refine wpAnyH_take (i := 16) (oi := ?oia16) (v := .bool (decide (gap < tj - ti))) ?hia16 (by kernel_rfl) (by kernel_rfl) (by kernel_rfl) ?hqa16 ?hya16 (by assumption) ?resta16
          case hia16 => simp only [List.getElem?_toArray, List.getElem?_cons_succ, List.getElem?_cons_zero, Option.some.injEq]; rfl
          case hqa16 => exact fun _ _ _ h => h
          case hya16 =>
            refine Or.inl ⟨by kernel_rfl, fun V hV => ?_⟩
            clear hV
            clear hHeld
            go_simp
          try simp only [Go.Act.put, List.setIfInBounds_toArray, List.set_cons_zero, List.set_cons_succ]
          refine wpAnyH_ready (rs := [17]) (by kernel_rfl) (by simp) ?_
          refine AllReadyH.cons rfl (fun K hK => ?_) AllReadyH.nil
          go_simp
          have hgX : wr.grownBy (wr.drew.alloc (.cells #[.bool (decide (gap < tj - ti))] 4)) none := grown_trans (show wr.grownBy wr.drew none from ⟨rfl, rfl, rfl, Nat.le_refl _, fun _ _ _ => rfl⟩) (World.grownBy_alloc _ _ _)
          refine hK.out _ _ (grown_low2 hgX) (fun hHeld1 => ?_)
          have HO1 := Lib.hid (keptR ho.out hgX)
          have HBX := Lib.hid (World.alloc_heap_new wr.drew (.cells #[.bool (decide (gap < tj - ti))] 4))
          have hsw : wr.drew.heap.size = wr.heap.size := rfl
          try simp only [Go.Act.put, List.setIfInBounds_toArray, List.set_cons_zero, List.set_cons_succ]
          refine wpAnyH_ready (rs := [18]) (by kernel_rfl) (by simp) ?_
          refine AllReadyH.cons rfl (fun K hK => ?_) AllReadyH.nil
          refine step_append_lies _ (by rfl) _ _ _ (by rfl) w.heap.size 4 j0 (.bool false) 1 1 Try.underlying89 ji jz0 jz1 jz2 rfl (by omega) v k (marksV M k) (by rfl) HO1.out
            ⟨wr.heap.size, 0, none⟩ 1 1 [.bool (decide (gap < tj - ti))] (by rfl) (by rfl) (World.news_of_block HBX.out) (by intro u hu; simp at hu; subst hu; rfl)
            (by omega) (by unfold maxLen; omega) (by omega) (by have := HG.out.size; simp; omega) _ rfl ?_
          intro gg cap2 w4 hown1 hgrow hat hlt4
          refine hK.out _ _ (World.grownBy.trans hHeld1 hgrow) (fun hHeld => ?_)
          have HO4 : Hid (w4.ownsRow w.heap.size 4 1 (.slice (some ⟨gg, 0, none⟩) (k + 1) cap2) (k + 1) (marksV M (k + 1))) := by
            show World.ownsRow _ _ _ _ _ _ _
            rw [marksV_succ, HMK.out]; exact hown1
          have HG4 : Hid (w.grownBy w4 none) := grown_anyR HG.out hHeld (fun q e => (ho.out.lt q e).1)
          have HB4 := Lib.hid (mblock_at hbx.out hHeld (fun e => own_far ho.out hbx.out (by decide) e.symm))
          clear hK hHeld1 hown1 hgrow hat hlt4 hgX
          try simp only [Go.Act.put, List.setIfInBounds_toArray, List.set_cons_zero, List.set_cons_succ]
          refine wpAnyH_take (i := 19) (oi := ?oia19) (v := .slice (some ⟨gg, 0, none⟩) (k + 1) cap2) ?hia19 (by kernel_rfl) (by kernel_rfl) (by kernel_rfl) ?hqa19 ?hya19 (by assumption) ?resta19
          case hia19 => simp only [List.getElem?_toArray, List.getElem?_cons_succ, List.getElem?_cons_zero, Option.some.injEq]; rfl
          case hqa19 => exact fun _ _ _ h => h
          case hya19 =>
            refine Or.inl ⟨by kernel_rfl, fun V hV => ?_⟩
            clear hV
            clear hHeld
            go_simp
          try simp only [Go.Act.put, List.setIfInBounds_toArray, List.set_cons_zero, List.set_cons_succ]
          refine wpAnyH_done (by kernel_rfl) ?_ _
          refine NoPanic.normal ?_
          clear hHeld HO1 HBX hsw
          clear ci cj b3 ncj nb3 hbx ho HG
          go_wp2_with fail
          go_roundw
          case rel => exact ⟨k + 1, _, by omega, rfl, by go_num, HG4.out, HB4.out, HO4.out⟩
          case measure => simp [intOf]; omega
        · have hke : k = ss.length - 1 := by omega
          have q5 : ¬ (k : Int) + 1 < (ss.length : Int) := by omega
          obtain ⟨mo, mc, rfl, hbl⟩ := marks_bl ho.out
          have HBL := Lib.hid hbl
          have HKN : Hid (k = ss.length - 1) := hke
          clear hbl hke hlt
          have bb0 : wr.cell? ⟨w.heap.size, 0, none⟩ = some (.string nm) := mblock_cell hbx.out 0 _ rfl
          have bb1 : wr.cell? ⟨w.heap.size, 1, none⟩ = some (.int .i64 sp) := mblock_cell hbx.out 1 _ rfl
          have bb2 : wr.cell? ⟨w.heap.size, 2, none⟩ = some (.int .i64 st) := mblock_cell hbx.out 2 _ rfl
          have bb3 : wr.cell? ⟨w.heap.size, 3, none⟩ = some (.slice so ss.length sc) := mblock_cell hbx.out 3 _ rfl
          have bb4 : wr.cell? ⟨w.heap.size, 4, none⟩ = some (.slice lo ls.length lc) := mblock_cell hbx.out 4 _ rfl
          have bb5 : wr.cell? ⟨w.heap.size, 5, none⟩ = some (.slice to_ ts.length tc) := mblock_cell hbx.out 5 _ rfl
          go_wp2_with fail
          refine (rrows_is nm sp st so sc ss lo lc ls to_ tc ts mo mc k M 1 (by omega) (by omega) wr (Lib.hid (HA.out.hs.grown HG.out)) HS HKN HBL).mono ?_
          rintro e w5 ⟨⟨v5, rfl, ho5⟩, hg5⟩
          have HO5 : Hid (w5.ownsRow w.heap.size 45 2 v5 (restL (tmS ss) M 1 (ss.length - 1)).length ((restL (tmS ss) M 1 (ss.length - 1)).flatMap spCs)) := by
            have q := own_baseR ho5 HG.out.size
            rw [HKN.out] at q
            exact q
          have HG5 : Hid (w.grownBy w5 none) := grown_trans HG.out hg5
          clear ho5 hg5 bb0 bb1 bb2 bb3 bb4 bb5
          go_wp2_with fail
          go_ret2
          exact ⟨⟨_, rfl, HO5.out⟩, HG5.out⟩
    · have hv := HV.out
      rw [if_neg c0] at hv
      simp only [Prod.mk.injEq] at hv
      obtain ⟨rfl, rfl⟩ := hv
      have co : gap < 1 ∨ 1000000 < gap := by omega
      go_enter Try.func22, Try.ntmps22
      go_wp2_with fail
      refine (rcheck_any ⟨nm, sp, st, so, sc, ss, lo, lc, ls, to_, tc, ts⟩ _ (HA.out.grown G1.out) HCE).mono ?_; rintro e w2 ⟨rfl, hg2⟩
      have HG2 : Hid (w.grownBy w2 none) := grown_trans G1.out hg2
      have HBX2 : Hid (w2.heap[w.heap.size]? = some (.cells #[.string nm, .int .i64 sp, .int .i64 st, .slice so ss.length sc, .slice lo ls.length lc, .slice to_ ts.length tc] 26 (0, 0))) := mblock_at (World.alloc_heap_new w _) hg2 (by simp)
      clear hg2
      go_wp2_with fail
      refine (routsideR_yes gap 1 1000000 co _).mono ?_; rintro e w3 ⟨rfl, rfl⟩
      go_wp2_with fail
      go_ret2
      exact ⟨⟨_, rfl, World.ownsRow_nil _ _ _ _⟩, HG2.out⟩
  · rw [if_neg c1] at hv
    simp only [Prod.mk.injEq] at hv
    obtain ⟨rfl, rfl⟩ := hv
    have hne : (ce != 0) = true := by simpa using c1
    clear hce c1
    go_enter Try.func22, Try.ntmps22
    go_wp2_with fail
    refine (rcheck_any ⟨nm, sp, st, so, sc, ss, lo, lc, ls, to_, tc, ts⟩ _ (HA.out.grown G1.out) HCE).mono ?_; rintro e w2 ⟨rfl, hg2⟩
    have HG2 : Hid (w.grownBy w2 none) := grown_trans G1.out hg2
    have HBX2 : Hid (w2.heap[w.heap.size]? = some (.cells #[.string nm, .int .i64 sp, .int .i64 st, .slice so ss.length sc, .slice lo ls.length lc, .slice to_ ts.length tc] 26 (0, 0))) := mblock_at (World.alloc_heap_new w _) hg2 (by simp)
    clear hg2
    go_wp2_with fail
    go_ret2
    exact ⟨⟨_, rfl, World.ownsRow_nil _ _ _ _⟩, HG2.out⟩
end Go.Proofs.Ytgkhhfojioepgaa
