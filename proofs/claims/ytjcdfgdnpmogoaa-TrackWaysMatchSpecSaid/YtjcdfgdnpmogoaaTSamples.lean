/- The contract of checkSamples. -/
import Derived.Test.YtjcdfgdnpmogoaaTWithin
namespace Go.Proofs.Ytjcdfgdnpmogoaa
open Go.RowKit

/-- The time of the sample before. -/
def prevT (l : List Smp) : Nat → Option Int
  | 0 => none
  | k + 1 => (l[k]?).map Smp.t

theorem prevT_succ (l : List Smp) (k : Nat) : prevT l (k + 1) = (l[k]?).map Smp.t := rfl
theorem smpsE_end {st : Int} {b : Option Int} {l : List Smp} {k : Nat} (h : l.length ≤ k) : smpsE st b (l.drop k) = 0 := by
  rw [List.drop_eq_nil_of_le h]; rfl
theorem smpsE_early {st : Int} {b : Option Int} {l : List Smp} {k : Nat} (h : k < l.length) (he : early b l[k].t) : smpsE st b (l.drop k) = 10 := by
  rw [List.drop_eq_getElem_cons h, smpsE, if_pos he]
theorem smpsE_out {st : Int} {b : Option Int} {l : List Smp} {k : Nat} (h : k < l.length) (he : ¬ early b l[k].t) (hi : ¬ smpIn st l[k]) : smpsE st b (l.drop k) = 9 := by
  rw [List.drop_eq_getElem_cons h, smpsE, if_neg he, if_neg hi]
theorem smpsE_next {st : Int} {l : List Smp} {k : Nat} {b : Option Int} (h : k < l.length) (he : ¬ early b l[k].t) (hi : smpIn st l[k]) : smpsE st b (l.drop k) = smpsE st (prevT l (k + 1)) (l.drop (k + 1)) := by
  rw [List.drop_eq_getElem_cons h, smpsE, if_neg he, if_pos hi]
  rw [prevT_succ, List.getElem?_eq_getElem h]; rfl

set_option maxRecDepth 100000 in
set_option maxHeartbeats 3200000 in
theorem chkSamples_some (start : Int) (h0 : 0 ≤ start) (h1 : start ≤ 86399999999) (b off cap : Nat) (ss : List Smp) (hl : (ss.length : Int) ≤ 9223372036854775807) (w : World) (hs : SmpsAt w (some ⟨b, off, none⟩) ss) {E : Int} (hE : Hid (smpsE start none ss = E)) :
    Calls Try.prog 115 #[.int .i64 start, .slice (some ⟨b, off, none⟩) ss.length cap] w fun e w' => e = .returned (.int .i64 E) ∧ w.grownBy w' none := by
  have HS := Lib.hid hs; clear hs
  go_enter Try.func115, Try.ntmps115
  go_wp2
  go_loopw [9] (fun iv wr => ∃ k : Nat, k ≤ ss.length ∧ iv = .int .i64 k ∧ w.grownBy wr none ∧ Hid (smpsE start (prevT ss k) (ss.drop k) = E) ∧ Hid (∀ p, prevT ss k = some p → 0 ≤ p))
    (fun iv _ => ss.length - (intOf iv).toNat)
  case atStart => exact ⟨0, Nat.zero_le _, rfl, grown_refl _ _, by show _ = _; rw [← hE.out]; rfl, fun p h => by simp [prevT] at h⟩
  case round =>
    obtain ⟨k, hk, rfl, hg, hw, hp⟩ := hrel
    by_cases hlt : k < ss.length
    · obtain ⟨c0, c1, c2, c3, c4, c5, c6⟩ := HS.out.cells _ rfl k hlt
      replace c0 := grown_cell hg c0; replace c1 := grown_cell hg c1; replace c2 := grown_cell hg c2; replace c3 := grown_cell hg c3
      replace c4 := grown_cell hg c4; replace c5 := grown_cell hg c5; replace c6 := grown_cell hg c6
      simp only at c0 c1 c2 c3 c4 c5 c6
      -- what is to be shown of the rest, for whatever stands at k
      have RE : early (prevT ss k) ss[k].t → Hid (E = 10) := fun h => by show _ = _; rw [← hw.out]; exact smpsE_early hlt h
      have RO : ¬ early (prevT ss k) ss[k].t → ¬ smpIn start ss[k] → Hid (E = 9) := fun h h' => by show _ = _; rw [← hw.out]; exact smpsE_out hlt h h'
      have RN : ¬ early (prevT ss k) ss[k].t → smpIn start ss[k] → Hid (smpsE start (prevT ss (k + 1)) (ss.drop (k + 1)) = E) := fun h h' => by show _ = _; rw [← hw.out]; exact (smpsE_next hlt h h').symm
      have RP : Hid (∀ p, prevT ss (k + 1) = some p → p = ss[k].t) := fun p h => by
        rw [prevT_succ, List.getElem?_eq_getElem hlt] at h; simpa using h.symm
      generalize ss[k] = x at *
      obtain ⟨t, px, py, pz, pp, pq, ps⟩ := x
      simp only at c0 c1 c2 c3 c4 c5 c6 RE RO RN RP
      have HWR := Lib.hid hg; have HLT := Lib.hid hlt
      by_cases hk0 : k = 0
      · have e0 : ((k : Int) == 0) = true := by simp; omega
        have e2 : decide (0 < (k : Int)) = false := by simp; omega
        have e3 : decide (0 < k) = false := by simp; omega
        have hpk : Hid (prevT ss k = none) := by subst hk0; exact rfl
        have HK := Lib.hid hk0
        clear hk0
        by_cases ht : t = 0
        · have e1 : (t != 0) = false := by simpa using ht
          have tl0 : 0 ≤ t := by omega
          have tl1 : t ≤ 0 := by omega
          have NE : Hid (¬ early (prevT ss k) t) := by show ¬ _; rw [hpk.out]; unfold early; simpa using ht
          clear ht
          have ta : ¬ 1000000 < t := by omega
          have tb : ¬ 86399999999 < start + t := by omega
          by_cases tc : (-100000000 ≤ px ∧ px ≤ 100000000) ∧ (-100000000 ≤ py ∧ py ≤ 100000000) ∧ (-100000 ≤ pz ∧ pz ≤ 100000)
          · by_cases td : (-1 ≤ pp ∧ pp ≤ 300) ∧ (-1 ≤ pq ∧ pq ≤ 3000) ∧ (-1 ≤ ps ∧ ps ≤ 300)
            · have HE := RN NE.out (by unfold smpIn; simp only; omega)
              have HC := Lib.hid tc; have HD := Lib.hid td
              have HP : Hid (∀ p, prevT ss (k + 1) = some p → 0 ≤ p) := fun p h => by rw [RP.out p h]; exact tl0
              clear RE RO RN RP tc td
              go_wp2_with fail
              go_quiet (fail)
              clear e0 e2
              go_wp2_with fail
              refine (isPlaced_yes ⟨t, px, py, pz, pp, pq, ps⟩ HC.out.1 HC.out.2.1 HC.out.2.2 _).mono ?_; rintro e w1 ⟨rfl, hg1⟩
              have b0 : w1.cell? ⟨wr.heap.size, 0, none⟩ = some (.int .i64 t) := grown_cell hg1 (by simp)
              have b1 : w1.cell? ⟨wr.heap.size, 1, none⟩ = some (.int .i64 px) := grown_cell hg1 (by simp)
              have b2 : w1.cell? ⟨wr.heap.size, 2, none⟩ = some (.int .i64 py) := grown_cell hg1 (by simp)
              have b3 : w1.cell? ⟨wr.heap.size, 3, none⟩ = some (.int .i64 pz) := grown_cell hg1 (by simp)
              have b4 : w1.cell? ⟨wr.heap.size, 4, none⟩ = some (.int .i64 pp) := grown_cell hg1 (by simp)
              have b5 : w1.cell? ⟨wr.heap.size, 5, none⟩ = some (.int .i64 pq) := grown_cell hg1 (by simp)
              have b6 : w1.cell? ⟨wr.heap.size, 6, none⟩ = some (.int .i64 ps) := grown_cell hg1 (by simp)
              go_wp2_with fail
              refine (isMeasured_yes ⟨t, px, py, pz, pp, pq, ps⟩ HD.out.1 HD.out.2.1 HD.out.2.2 _).mono ?_; rintro e w2 ⟨rfl, hg2⟩
              have G := grown_trans (grown_trans hg (grown_trans (World.grownBy_alloc _ _ _) (grown_drewN _ _ _))) (grown_trans hg1 hg2)
              clear b0 b1 b2 b3 b4 b5 b6 hg1 hg2
              go_wp2_with fail
              go_roundw
              case rel => exact ⟨k + 1, by have := HLT.out; omega, by go_num, G, HE, HP⟩
              case measure => have := HLT.out; simp [intOf]; omega
            · have HE := RO NE.out (by unfold smpIn; simp only; omega)
              have HC := Lib.hid tc; have HD := Lib.hid td
              clear RE RO RN RP tc td
              go_wp2_with fail
              go_quiet (fail)
              clear e0 e2
              go_wp2_with fail
              refine (isPlaced_yes ⟨t, px, py, pz, pp, pq, ps⟩ HC.out.1 HC.out.2.1 HC.out.2.2 _).mono ?_; rintro e w1 ⟨rfl, hg1⟩
              have b0 : w1.cell? ⟨wr.heap.size, 0, none⟩ = some (.int .i64 t) := grown_cell hg1 (by simp)
              have b1 : w1.cell? ⟨wr.heap.size, 1, none⟩ = some (.int .i64 px) := grown_cell hg1 (by simp)
              have b2 : w1.cell? ⟨wr.heap.size, 2, none⟩ = some (.int .i64 py) := grown_cell hg1 (by simp)
              have b3 : w1.cell? ⟨wr.heap.size, 3, none⟩ = some (.int .i64 pz) := grown_cell hg1 (by simp)
              have b4 : w1.cell? ⟨wr.heap.size, 4, none⟩ = some (.int .i64 pp) := grown_cell hg1 (by simp)
              have b5 : w1.cell? ⟨wr.heap.size, 5, none⟩ = some (.int .i64 pq) := grown_cell hg1 (by simp)
              have b6 : w1.cell? ⟨wr.heap.size, 6, none⟩ = some (.int .i64 ps) := grown_cell hg1 (by simp)
              go_wp2_with fail
              refine (isMeasured_no ⟨t, px, py, pz, pp, pq, ps⟩ HD.out _).mono ?_; rintro e w2 ⟨rfl, hg2⟩
              have G := grown_trans (grown_trans hg (grown_trans (World.grownBy_alloc _ _ _) (grown_drewN _ _ _))) (grown_trans hg1 hg2)
              clear b0 b1 b2 b3 b4 b5 b6 hg1 hg2
              go_wp2_with fail
              go_ret
              exact ⟨ret_int HE.out.symm, G⟩
          · have HE := RO NE.out (by unfold smpIn; simp only; omega)
            have HC := Lib.hid tc
            clear RE RO RN RP tc
            go_wp2_with fail
            go_quiet (fail)
            clear e0 e2
            go_wp2_with fail
            refine (isPlaced_no ⟨t, px, py, pz, pp, pq, ps⟩ HC.out _).mono ?_; rintro e w1 ⟨rfl, hg1⟩
            have G := grown_trans (grown_trans hg (grown_trans (World.grownBy_alloc _ _ _) (grown_drewN _ _ _))) hg1
            clear hg1
            go_wp2_with fail
            go_ret
            exact ⟨ret_int HE.out.symm, G⟩
        · have e1 : (t != 0) = true := by simpa using ht
          have HE := RE (by rw [hpk.out]; exact ht)
          clear RE RO RN RP ht
          go_wp2_with fail
          go_quiet (fail)
          go_wp2_with fail
          go_ret
          exact ⟨ret_int HE.out.symm, grown_trans hg (grown_trans (World.grownBy_alloc _ _ _) (grown_drewN _ _ _))⟩
      · obtain ⟨i, hki⟩ : ∃ i, k = i + 1 := ⟨k - 1, by omega⟩
        have hi : i < ss.length := by omega
        obtain ⟨pv, hpv⟩ : ∃ pv, ss[i].t = pv := ⟨_, rfl⟩
        have hpk : Hid (prevT ss k = some pv) := by show _ = _; rw [hki, prevT_succ, List.getElem?_eq_getElem hi, ← hpv]; rfl
        have hpv0 : 0 ≤ pv := hp.out pv hpk.out
        have q0 := (HS.out.cells _ rfl i hi).1
        rw [hpv] at q0
        simp only at q0
        have q1 : ∀ n, ((wr.alloc (.cells #[.int .i64 t, .int .i64 px, .int .i64 py, .int .i64 pz, .int .i64 pp, .int .i64 pq, .int .i64 ps] 28)).drewN n).cell? ⟨b, off + i * 7, none⟩ = some (.int .i64 pv) := fun n => grown_cell (grown_trans hg (grown_trans (World.grownBy_alloc _ _ _) (grown_drewN _ _ _))) q0
        have e0 : ((k : Int) == 0) = false := by simp; omega
        have e2 : decide (0 < (k : Int)) = true := by simp; omega
        have e3 : 0 < k := by omega
        have ea : ((k : Int) - 1).toNat = i := by omega
        have pa : (0 : Int) ≤ (k : Int) - 1 := by omega
        have pb : (1 : Int) ≤ (k : Int) := by omega
        have ba : (k : Int) - 1 < (ss.length : Int) := by omega
        have ra : IntKind.i64.wrap ((k : Int) - 1) = (k : Int) - 1 := by rw [IntKind.wrap_i64]; omega
        have HKI := Lib.hid hki
        clear hki hpv q0 hk0
        by_cases ht : t ≤ pv
        · have e1 : decide (t ≤ pv) = true := by simpa using ht
          have HE := RE (by rw [hpk.out]; exact ht)
          clear RE RO RN RP
          go_wp2_with fail
          go_quiet (fail)
          go_wp2_with fail
          go_ret
          exact ⟨ret_int HE.out.symm, grown_trans hg (grown_trans (World.grownBy_alloc _ _ _) (grown_drewN _ _ _))⟩
        · have e1 : decide (t ≤ pv) = false := by simpa using ht
          have tl0 : 0 ≤ t := by omega
          have NE : Hid (¬ early (prevT ss k) t) := by show ¬ _; rw [hpk.out]; unfold early; exact ht
          clear ht
          by_cases ta : 1000000 < t
          · have HE := RO NE.out (by unfold smpIn; simp only; omega)
            clear RE RO RN RP
            go_wp2_with fail
            go_quiet (fail)
            clear e0 e2 q1 ea pa pb ba ra
            go_wp2_with fail
            go_ret
            exact ⟨ret_int HE.out.symm, grown_trans hg (grown_trans (World.grownBy_alloc _ _ _) (grown_drewN _ _ _))⟩
          by_cases tb : 86399999999 < start + t
          · have HE := RO NE.out (by unfold smpIn; simp only; omega)
            clear RE RO RN RP
            go_wp2_with fail
            go_quiet (fail)
            clear e0 e2 q1 ea pa pb ba ra
            go_wp2_with fail
            go_ret
            exact ⟨ret_int HE.out.symm, grown_trans hg (grown_trans (World.grownBy_alloc _ _ _) (grown_drewN _ _ _))⟩
          by_cases tc : (-100000000 ≤ px ∧ px ≤ 100000000) ∧ (-100000000 ≤ py ∧ py ≤ 100000000) ∧ (-100000 ≤ pz ∧ pz ≤ 100000)
          · by_cases td : (-1 ≤ pp ∧ pp ≤ 300) ∧ (-1 ≤ pq ∧ pq ≤ 3000) ∧ (-1 ≤ ps ∧ ps ≤ 300)
            · have HE := RN NE.out (by unfold smpIn; simp only; omega)
              have HC := Lib.hid tc; have HD := Lib.hid td
              have HP : Hid (∀ p, prevT ss (k + 1) = some p → 0 ≤ p) := fun p h => by rw [RP.out p h]; exact tl0
              clear RE RO RN RP tc td
              go_wp2_with fail
              go_quiet (fail)
              clear e0 e2 q1 ea pa pb ba ra
              go_wp2_with fail
              refine (isPlaced_yes ⟨t, px, py, pz, pp, pq, ps⟩ HC.out.1 HC.out.2.1 HC.out.2.2 _).mono ?_; rintro e w1 ⟨rfl, hg1⟩
              have b0 : w1.cell? ⟨wr.heap.size, 0, none⟩ = some (.int .i64 t) := grown_cell hg1 (by simp)
              have b1 : w1.cell? ⟨wr.heap.size, 1, none⟩ = some (.int .i64 px) := grown_cell hg1 (by simp)
              have b2 : w1.cell? ⟨wr.heap.size, 2, none⟩ = some (.int .i64 py) := grown_cell hg1 (by simp)
              have b3 : w1.cell? ⟨wr.heap.size, 3, none⟩ = some (.int .i64 pz) := grown_cell hg1 (by simp)
              have b4 : w1.cell? ⟨wr.heap.size, 4, none⟩ = some (.int .i64 pp) := grown_cell hg1 (by simp)
              have b5 : w1.cell? ⟨wr.heap.size, 5, none⟩ = some (.int .i64 pq) := grown_cell hg1 (by simp)
              have b6 : w1.cell? ⟨wr.heap.size, 6, none⟩ = some (.int .i64 ps) := grown_cell hg1 (by simp)
              go_wp2_with fail
              refine (isMeasured_yes ⟨t, px, py, pz, pp, pq, ps⟩ HD.out.1 HD.out.2.1 HD.out.2.2 _).mono ?_; rintro e w2 ⟨rfl, hg2⟩
              have G := grown_trans (grown_trans hg (grown_trans (World.grownBy_alloc _ _ _) (grown_drewN _ _ _))) (grown_trans hg1 hg2)
              clear b0 b1 b2 b3 b4 b5 b6 hg1 hg2
              go_wp2_with fail
              go_roundw
              case rel => exact ⟨k + 1, by have := HLT.out; omega, by go_num, G, HE, HP⟩
              case measure => have := HLT.out; simp [intOf]; omega
            · have HE := RO NE.out (by unfold smpIn; simp only; omega)
              have HC := Lib.hid tc; have HD := Lib.hid td
              clear RE RO RN RP tc td
              go_wp2_with fail
              go_quiet (fail)
              clear e0 e2 q1 ea pa pb ba ra
              go_wp2_with fail
              refine (isPlaced_yes ⟨t, px, py, pz, pp, pq, ps⟩ HC.out.1 HC.out.2.1 HC.out.2.2 _).mono ?_; rintro e w1 ⟨rfl, hg1⟩
              have b0 : w1.cell? ⟨wr.heap.size, 0, none⟩ = some (.int .i64 t) := grown_cell hg1 (by simp)
              have b1 : w1.cell? ⟨wr.heap.size, 1, none⟩ = some (.int .i64 px) := grown_cell hg1 (by simp)
              have b2 : w1.cell? ⟨wr.heap.size, 2, none⟩ = some (.int .i64 py) := grown_cell hg1 (by simp)
              have b3 : w1.cell? ⟨wr.heap.size, 3, none⟩ = some (.int .i64 pz) := grown_cell hg1 (by simp)
              have b4 : w1.cell? ⟨wr.heap.size, 4, none⟩ = some (.int .i64 pp) := grown_cell hg1 (by simp)
              have b5 : w1.cell? ⟨wr.heap.size, 5, none⟩ = some (.int .i64 pq) := grown_cell hg1 (by simp)
              have b6 : w1.cell? ⟨wr.heap.size, 6, none⟩ = some (.int .i64 ps) := grown_cell hg1 (by simp)
              go_wp2_with fail
              refine (isMeasured_no ⟨t, px, py, pz, pp, pq, ps⟩ HD.out _).mono ?_; rintro e w2 ⟨rfl, hg2⟩
              have G := grown_trans (grown_trans hg (grown_trans (World.grownBy_alloc _ _ _) (grown_drewN _ _ _))) (grown_trans hg1 hg2)
              clear b0 b1 b2 b3 b4 b5 b6 hg1 hg2
              go_wp2_with fail
              go_ret
              exact ⟨ret_int HE.out.symm, G⟩
          · have HE := RO NE.out (by unfold smpIn; simp only; omega)
            have HC := Lib.hid tc
            clear RE RO RN RP tc
            go_wp2_with fail
            go_quiet (fail)
            clear e0 e2 q1 ea pa pb ba ra
            go_wp2_with fail
            refine (isPlaced_no ⟨t, px, py, pz, pp, pq, ps⟩ HC.out _).mono ?_; rintro e w1 ⟨rfl, hg1⟩
            have G := grown_trans (grown_trans hg (grown_trans (World.grownBy_alloc _ _ _) (grown_drewN _ _ _))) hg1
            clear hg1
            go_wp2_with fail
            go_ret
            exact ⟨ret_int HE.out.symm, G⟩
    · have HV : Hid (E = 0) := by show _ = _; rw [← hw.out]; exact smpsE_end (by omega)
      go_wp2
      go_ret
      exact ⟨ret_int HV.out.symm, hg⟩

end Go.Proofs.Ytjcdfgdnpmogoaa
