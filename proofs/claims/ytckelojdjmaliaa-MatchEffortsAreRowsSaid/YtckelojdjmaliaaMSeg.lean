/- The contracts of CheckSegment, of both sides. -/
import Derived.Test.YtckelojdjmaliaaMPlane
import Derived.Test.YtckelojdjmaliaaBaseA
import Derived.Test.YtckelojdjmaliaaMSide
import Derived.Test.YtckelojdjmaliaaTRName1
namespace Go.Proofs.Ytckelojdjmaliaa
open Go.RowKit
set_option linter.unusedSimpArgs false
set_option linter.unusedVariables false

theorem gatesE_bad : ∀ {gs : List Gt} {k : Nat} (h : k < gs.length), gatesE (gs.take k) = 0 → gate1 gs[k] ≠ 0 → gatesE gs = gate1 gs[k]
  | g :: r, 0, _, _, h => by unfold gatesE; exact if_neg h
  | g :: r, k + 1, hk, h0, h => by
    rw [List.take_succ_cons] at h0
    unfold gatesE at h0
    split at h0
    · rename_i hg
      unfold gatesE
      rw [if_pos hg]
      exact gatesE_bad (gs := r) (by simpa using hk) h0 h
    · rename_i hg; exact absurd h0 hg
theorem gatesE_more {gs : List Gt} {k : Nat} (h : k < gs.length) (h0 : gatesE (gs.take k) = 0) (h1 : gate1 gs[k] = 0) : gatesE (gs.take (k + 1)) = 0 := by
  rw [gatesE_zero] at *
  intro g hg
  rw [List.take_succ_eq_append_getElem h] at hg
  rcases List.mem_append.1 hg with hg | hg
  · exact h0 g hg
  · rw [List.mem_singleton] at hg; rw [hg]; exact h1

set_option maxRecDepth 100000 in
set_option maxHeartbeats 3200000 in
theorem checkSeg_is (s : Seg) (w : World) (hs : SegAt w s) {E : Int} (hE : Hid (segE s.name s.gs = E)) :
    Calls Try.prog 11 #[s.val] w fun e w' => e = .returned (.int .i64 E) ∧ w.grownBy w' none := by
  obtain ⟨nm, go_, gc, gs⟩ := s
  have HS := Lib.hid hs
  have hl : (gs.length : Int) ≤ 9223372036854775807 := hs.gl
  have hv := hE.out
  unfold segE at hv
  simp only at hv
  have NS : Hid (nm.size ≤ 140737488355328) := hs.ns
  have HG : Hid (GatesAt w go_ gs) := hs.hg
  clear hE hs HS
  simp only [Seg.val] at *
  obtain ⟨nb, hnb⟩ : ∃ b, nameB nm = b := ⟨_, rfl⟩
  rw [hnb] at hv
  have HNB := Lib.hid hnb
  clear hnb
  have bS : (w.alloc (.cells #[.string nm, .slice go_ gs.length gc] 24)).heap[w.heap.size]? = some (.cells #[.string nm, .slice go_ gs.length gc] 24 (0, 0)) := mheap_new w _
  have G0 : Hid (w.grownBy (w.alloc (.cells #[.string nm, .slice go_ gs.length gc] 24)) none) := World.grownBy_alloc _ _ _
  have BS := Lib.hid bS
  clear bS
  go_enter Try.func11, Try.ntmps11
  go_wp2_with fail
  generalize w.alloc (.cells #[.string nm, .slice go_ gs.length gc] 24) = w1 at *
  refine (isName_is nm NS.out _ HNB).mono ?_; rintro e w2 ⟨rfl, rfl⟩
  cases nb with
  | false =>
    go_wp2_with fail
    go_ret
    exact ⟨ret_int hv, G0.out⟩
  | true =>
    rw [if_pos rfl] at hv
    obtain ⟨lb, hlb⟩ : ∃ b, decide ((2 : Int) ≤ (gs.length : Int) ∧ (gs.length : Int) ≤ 50) = b := ⟨_, rfl⟩
    have HLB := Lib.hid hlb
    have s1 := mblock_cell BS.out 1 _ rfl
    go_wp2_with fail
    refine (mwithin_is _ _ _ _ HLB).mono ?_; rintro e w2 ⟨rfl, rfl⟩
    cases lb with
    | false =>
      have hno : ¬ (2 ≤ gs.length ∧ gs.length ≤ 50) := by have := of_decide_eq_false hlb; omega
      rw [if_neg hno] at hv
      go_wp2_with fail
      go_ret
      exact ⟨ret_int hv, G0.out⟩
    | true =>
      have hyes : 2 ≤ gs.length ∧ gs.length ≤ 50 := by have := of_decide_eq_true hlb; omega
      rw [if_pos hyes] at hv
      have HV := Lib.hid hv
      have HY := Lib.hid hyes
      clear hv hlb HLB hyes
      go_wp2_with fail
      clear s1
      go_loopw [17] (fun iv wr => ∃ k : Nat, k ≤ gs.length ∧ iv = .int .i64 k ∧ Hid (w.grownBy wr none) ∧ Hid (gatesE (gs.take k) = 0)) (fun iv _ => gs.length - (intOf iv).toNat)
      case atStart => exact ⟨0, Nat.zero_le _, rfl, G0.out, rfl⟩
      case round =>
        obtain ⟨k, hk, rfl, hg, h0⟩ := hrel
        by_cases hlt : k < gs.length
        · obtain ⟨gb, gof, hgo, qg⟩ := gates_at (HG.out.grown hg.out) (by omega)
          subst hgo
          obtain ⟨c0, c1, c2, c3⟩ := qg k hlt
          have hbad := gatesE_bad hlt h0.out
          have hmore := gatesE_more hlt h0.out
          have hk0 : (k : Int) < (gs.length : Int) := by omega
          have HLT := Lib.hid hlt; have HGR := Lib.hid hg.out; have HBAD := Lib.hid hbad; have HMORE := Lib.hid hmore
          clear qg hg h0 hbad hmore
          generalize gs[k] = g at *
          obtain ⟨ax, ay, bx, by_⟩ := g
          simp only at c0 c1 c2 c3
          obtain ⟨p1, hp1⟩ : ∃ b, decide (onP ⟨ax, ay⟩) = b := ⟨_, rfl⟩
          obtain ⟨p2, hp2⟩ : ∃ b, decide (onP ⟨bx, by_⟩) = b := ⟨_, rfl⟩
          have HP1 := Lib.hid hp1; have HP2 := Lib.hid hp2
          have HG1 : Hid (gate1 ⟨ax, ay, bx, by_⟩ = if p1 = true ∧ p2 = true then if ax = bx ∧ ay = by_ then 2 else 0 else 9) := by
            show _ = _
            rw [← hp1, ← hp2]
            unfold gate1
            simp only [decide_eq_true_eq]
            rfl
          clear hp1 hp2
          go_wp2_with fail
          clear c0 c1 c2 c3
          have b9 := mheap_new wr (.cells #[.int .i64 ax, .int .i64 ay, .int .i64 bx, .int .i64 by_] 73)
          have G2 := Lib.hid (grown_trans HGR.out (World.grownBy_alloc wr (.cells #[.int .i64 ax, .int .i64 ay, .int .i64 bx, .int .i64 by_] 73) none))
          generalize wr.alloc (.cells #[.int .i64 ax, .int .i64 ay, .int .i64 bx, .int .i64 by_] 73) = w3 at *
          generalize wr.heap.size = gx at *
          have B9 := Lib.hid b9
          clear b9 HGR
          refine (onPlane_is ⟨ax, ay⟩ _ HP1).mono ?_; rintro e w4 ⟨rfl, hg4⟩
          have G4 := Lib.hid (grown_trans G2.out hg4)
          have z4 := mblock_at B9.out hg4 (by simp)
          have B4 := Lib.hid z4
          have z0 := mblock_cell z4 0 _ rfl; have z1 := mblock_cell z4 1 _ rfl; have z2 := mblock_cell z4 2 _ rfl; have z3 := mblock_cell z4 3 _ rfl
          clear hg4 z4 G2 B9
          cases p1 with
          | false =>
            have hb := HBAD.out (by rw [HG1.out]; simp)
            rw [HG1.out, HV.out] at hb
            simp only [Bool.false_eq_true, false_and, if_false] at hb
            go_wp2_with fail
            go_ret
            exact ⟨ret_int hb.symm, G4.out⟩
          | true =>
            go_wp2_with fail
            refine (onPlane_is ⟨bx, by_⟩ _ HP2).mono ?_; rintro e w5 ⟨rfl, hg5⟩
            have G5 := Lib.hid (grown_trans G4.out hg5)
            have z4 := mblock_at B4.out hg5 (by simp)
            clear hg5 z0 z1 z2 z3 G4
            have z0 := mblock_cell z4 0 _ rfl; have z1 := mblock_cell z4 1 _ rfl; have z2 := mblock_cell z4 2 _ rfl; have z3 := mblock_cell z4 3 _ rfl
            clear z4 B4
            cases p2 with
            | false =>
              have hb := HBAD.out (by rw [HG1.out]; simp)
              rw [HG1.out, HV.out] at hb
              simp only [Bool.false_eq_true, and_false, if_false] at hb
              go_wp2_with fail
              go_ret
              exact ⟨ret_int hb.symm, G5.out⟩
            | true =>
              by_cases e1 : ax = bx
              · by_cases e2 : ay = by_
                · have hb := HBAD.out (by rw [HG1.out]; simp [e1, e2])
                  rw [HG1.out, HV.out] at hb
                  simp only [e1, e2, and_self, if_true] at hb
                  subst e1; subst e2
                  go_wp2_with fail
                  go_ret
                  exact ⟨ret_int hb.symm, G5.out⟩
                · have ed : decide (ay = by_) = false := decide_eq_false e2
                  have edb : (ay == by_) = false := beq_eq_false_iff_ne.2 e2
                  have hm := HMORE.out (by rw [HG1.out]; simp [e2])
                  have HM := Lib.hid hm
                  subst e1
                  clear hm e2
                  go_wp2_with fail
                  go_roundw
                  case rel => exact ⟨k + 1, HLT.out, by go_num, G5.out, HM.out⟩
                  case measure => have := HLT.out; simp [intOf]; omega
              · have ed : decide (ax = bx) = false := decide_eq_false e1
                have edb : (ax == bx) = false := beq_eq_false_iff_ne.2 e1
                have hm := HMORE.out (by rw [HG1.out]; simp [e1])
                have HM := Lib.hid hm
                clear hm e1
                go_wp2_with fail
                go_roundw
                case rel => exact ⟨k + 1, HLT.out, by go_num, G5.out, HM.out⟩
                case measure => have := HLT.out; simp [intOf]; omega
        · have hz := h0.out
          rw [List.take_of_length_le (by omega), HV.out] at hz
          have HGR := Lib.hid hg.out
          clear hg h0
          go_wp2_with fail
          go_ret
          exact ⟨ret_int hz.symm, HGR.out⟩

set_option maxRecDepth 100000 in
set_option maxHeartbeats 3200000 in
theorem rcheckSeg_is (s : Seg) (w : World) (hs : SegAt w s) {E : Int} (hE : Hid (segE s.name s.gs = E)) :
    Calls Try.prog 12 #[s.val] w fun e w' => e = .returned (.int .i64 E) ∧ w.grownBy w' none := by
  obtain ⟨nm, go_, gc, gs⟩ := s
  have HS := Lib.hid hs
  have hl : (gs.length : Int) ≤ 9223372036854775807 := hs.gl
  have hv := hE.out
  unfold segE at hv
  simp only at hv
  have NS : Hid (nm.size ≤ 140737488355328) := hs.ns
  have HG : Hid (GatesAt w go_ gs) := hs.hg
  clear hE hs HS
  simp only [Seg.val] at *
  obtain ⟨nb, hnb⟩ : ∃ b, nameB nm = b := ⟨_, rfl⟩
  rw [hnb] at hv
  have HNB := Lib.hid hnb
  clear hnb
  have bS : (w.alloc (.cells #[.string nm, .slice go_ gs.length gc] 24)).heap[w.heap.size]? = some (.cells #[.string nm, .slice go_ gs.length gc] 24 (0, 0)) := mheap_new w _
  have G0 : Hid (w.grownBy (w.alloc (.cells #[.string nm, .slice go_ gs.length gc] 24)) none) := World.grownBy_alloc _ _ _
  have BS := Lib.hid bS
  clear bS
  go_enter Try.func12, Try.ntmps12
  go_wp2_with fail
  generalize w.alloc (.cells #[.string nm, .slice go_ gs.length gc] 24) = w1 at *
  refine (rname1_is nm NS.out _ HNB).mono ?_; rintro e w2 ⟨rfl, rfl⟩
  cases nb with
  | false =>
    go_wp2_with fail
    go_ret
    exact ⟨ret_int hv, G0.out⟩
  | true =>
    rw [if_pos rfl] at hv
    obtain ⟨lb, hlb⟩ : ∃ b, decide ((gs.length : Int) < 2 ∨ (50 : Int) < (gs.length : Int)) = b := ⟨_, rfl⟩
    have HLB := Lib.hid hlb
    have s1 := mblock_cell BS.out 1 _ rfl
    go_wp2_with fail
    refine (moutside_is _ _ _ _ HLB).mono ?_; rintro e w2 ⟨rfl, rfl⟩
    cases lb with
    | true =>
      have hno : ¬ (2 ≤ gs.length ∧ gs.length ≤ 50) := by have := of_decide_eq_true hlb; omega
      rw [if_neg hno] at hv
      go_wp2_with fail
      go_ret
      exact ⟨ret_int hv, G0.out⟩
    | false =>
      have hyes : 2 ≤ gs.length ∧ gs.length ≤ 50 := by have := of_decide_eq_false hlb; omega
      rw [if_pos hyes] at hv
      have HV := Lib.hid hv
      have HY := Lib.hid hyes
      clear hv hlb HLB hyes
      go_wp2_with fail
      clear s1
      go_loopw [16] (fun iv wr => ∃ k : Nat, k ≤ gs.length ∧ iv = .int .i64 k ∧ Hid (w.grownBy wr none) ∧ Hid (gatesE (gs.take k) = 0)) (fun iv _ => gs.length - (intOf iv).toNat)
      case atStart => exact ⟨0, Nat.zero_le _, rfl, G0.out, rfl⟩
      case round =>
        obtain ⟨k, hk, rfl, hg, h0⟩ := hrel
        by_cases hlt : k < gs.length
        · obtain ⟨gb, gof, hgo, qg⟩ := gates_at (HG.out.grown hg.out) (by omega)
          subst hgo
          obtain ⟨c0, c1, c2, c3⟩ := qg k hlt
          have hbad := gatesE_bad hlt h0.out
          have hmore := gatesE_more hlt h0.out
          have hk0 : (k : Int) < (gs.length : Int) := by omega
          have HLT := Lib.hid hlt; have HGR := Lib.hid hg.out; have HBAD := Lib.hid hbad; have HMORE := Lib.hid hmore
          clear qg hg h0 hbad hmore
          generalize gs[k] = g at *
          obtain ⟨ax, ay, bx, by_⟩ := g
          simp only at c0 c1 c2 c3
          obtain ⟨p1, hp1⟩ : ∃ b, decide (onP ⟨ax, ay⟩) = b := ⟨_, rfl⟩
          obtain ⟨p2, hp2⟩ : ∃ b, decide (onP ⟨bx, by_⟩) = b := ⟨_, rfl⟩
          have HP1 := Lib.hid hp1; have HP2 := Lib.hid hp2
          have HG1 : Hid (gate1 ⟨ax, ay, bx, by_⟩ = if p1 = true ∧ p2 = true then if ax = bx ∧ ay = by_ then 2 else 0 else 9) := by
            show _ = _
            rw [← hp1, ← hp2]
            unfold gate1
            simp only [decide_eq_true_eq]
            rfl
          clear hp1 hp2
          go_wp2_with fail
          clear c0 c1 c2 c3
          have b9 := mheap_new wr (.cells #[.int .i64 ax, .int .i64 ay, .int .i64 bx, .int .i64 by_] 73)
          have G2 := Lib.hid (grown_trans HGR.out (World.grownBy_alloc wr (.cells #[.int .i64 ax, .int .i64 ay, .int .i64 bx, .int .i64 by_] 73) none))
          generalize wr.alloc (.cells #[.int .i64 ax, .int .i64 ay, .int .i64 bx, .int .i64 by_] 73) = w3 at *
          generalize wr.heap.size = gx at *
          have B9 := Lib.hid b9
          clear b9 HGR
          refine (isPoint_is ⟨ax, ay⟩ _ HP1).mono ?_; rintro e w4 ⟨rfl, hg4⟩
          have G4 := Lib.hid (grown_trans G2.out hg4)
          have z4 := mblock_at B9.out hg4 (by simp)
          have B4 := Lib.hid z4
          have z0 := mblock_cell z4 0 _ rfl; have z1 := mblock_cell z4 1 _ rfl; have z2 := mblock_cell z4 2 _ rfl; have z3 := mblock_cell z4 3 _ rfl
          clear hg4 z4 G2 B9
          cases p1 with
          | false =>
            have hb := HBAD.out (by rw [HG1.out]; simp)
            rw [HG1.out, HV.out] at hb
            simp only [Bool.false_eq_true, false_and, if_false] at hb
            go_wp2_with fail
            go_ret
            exact ⟨ret_int hb.symm, G4.out⟩
          | true =>
            go_wp2_with fail
            refine (isPoint_is ⟨bx, by_⟩ _ HP2).mono ?_; rintro e w5 ⟨rfl, hg5⟩
            have G5 := Lib.hid (grown_trans G4.out hg5)
            have z4 := mblock_at B4.out hg5 (by simp)
            clear hg5 z0 z1 z2 z3 G4
            have z0 := mblock_cell z4 0 _ rfl; have z1 := mblock_cell z4 1 _ rfl; have z2 := mblock_cell z4 2 _ rfl; have z3 := mblock_cell z4 3 _ rfl
            clear z4 B4
            cases p2 with
            | false =>
              have hb := HBAD.out (by rw [HG1.out]; simp)
              rw [HG1.out, HV.out] at hb
              simp only [Bool.false_eq_true, and_false, if_false] at hb
              go_wp2_with fail
              go_ret
              exact ⟨ret_int hb.symm, G5.out⟩
            | true =>
              by_cases e1 : ax = bx
              · by_cases e2 : ay = by_
                · have hb := HBAD.out (by rw [HG1.out]; simp [e1, e2])
                  rw [HG1.out, HV.out] at hb
                  simp only [e1, e2, and_self, if_true] at hb
                  subst e1; subst e2
                  go_wp2_with fail
                  go_ret
                  exact ⟨ret_int hb.symm, G5.out⟩
                · have ed : decide (ay = by_) = false := decide_eq_false e2
                  have edb : (ay == by_) = false := beq_eq_false_iff_ne.2 e2
                  have hm := HMORE.out (by rw [HG1.out]; simp [e2])
                  have HM := Lib.hid hm
                  subst e1
                  clear hm e2
                  go_wp2_with fail
                  go_roundw
                  case rel => exact ⟨k + 1, HLT.out, by go_num, G5.out, HM.out⟩
                  case measure => have := HLT.out; simp [intOf]; omega
              · have ed : decide (ax = bx) = false := decide_eq_false e1
                have edb : (ax == bx) = false := beq_eq_false_iff_ne.2 e1
                have hm := HMORE.out (by rw [HG1.out]; simp [e1])
                have HM := Lib.hid hm
                clear hm e1
                go_wp2_with fail
                go_roundw
                case rel => exact ⟨k + 1, HLT.out, by go_num, G5.out, HM.out⟩
                case measure => have := HLT.out; simp [intOf]; omega
        · have hz := h0.out
          rw [List.take_of_length_le (by omega), HV.out] at hz
          have HGR := Lib.hid hg.out
          clear hg h0
          go_wp2_with fail
          go_ret
          exact ⟨ret_int hz.symm, HGR.out⟩
end Go.Proofs.Ytckelojdjmaliaa
