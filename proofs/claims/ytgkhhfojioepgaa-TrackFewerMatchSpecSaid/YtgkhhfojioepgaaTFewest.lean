/- The contract of Fewest where there is an answer: the walk. -/
import Derived.Test.YtgkhhfojioepgaaTFewP
import Derived.Test.YtgkhhfojioepgaaTThin
import Derived.Test.YtgkhhfojioepgaaTMiss
namespace Go.Proofs.Ytgkhhfojioepgaa
open Go.RowKit
set_option linter.unusedSimpArgs false
set_option linter.unusedVariables false

set_option maxRecDepth 100000 in
set_option maxHeartbeats 4000000 in
theorem Fewest_ok (nm : ByteArray) (sp st : Int) (b off sc : Nat) (ss : List Smp) (lo : Option Addr) (lc : Nat) (ls : List LapV) (to_ : Option Addr) (tc : Nat) (ts : List ByteArray) (most : Int) (m0 : 0 ≤ most) (m1 : most ≤ 100000000) (hl : (ss.length : Int) ≤ 300) (hn1 : 1 ≤ ss.length) (w : World)
    (HA : Hid (ActAt w ⟨nm, sp, st, some ⟨b, off, none⟩, sc, ss, lo, lc, ls, to_, tc, ts⟩)) (HTE : Hid (thinE ⟨nm, sp, st, some ⟨b, off, none⟩, sc, ss, lo, lc, ls, to_, tc, ts⟩ most 300 = 0)) (HS : Hid (SOk ss)) {nr : Nat → Nat → Bool} (HNR : Hid (nrS ss most = nr)) :
    Calls Try.prog 42 #[.agg #[.string nm, .int .i64 sp, .int .i64 st, .slice (some ⟨b, off, none⟩) ss.length sc, .slice lo ls.length lc, .slice to_ ts.length tc], .int .i64 most] w fun x w' => (∃ v k, x = .returned (.tuple #[v, .int .i64 0]) ∧ PthEnd ss.length (fwN ss.length nr) 0 k ∧ w'.ownsRow w.heap.size 3 1 v k (pthVs (fwN ss.length nr) 0 k)) ∧ w.grownBy w' none := by
  have hll : ss.length ≤ 300 := by omega
  have hmk := run_make_row' (P := Try.prog) 48 3 (.int .i64 0) 8 Try.underlying48 info_int rfl .i64 .i64 ss.length (by omega) (by omega)
  obtain ⟨la, hla⟩ : ∃ la : Nat, ss.length = la + 1 := ⟨ss.length - 1, by omega⟩
  have HLA := Lib.hid hla
  have hla2 : (ss.length : Int) - 1 = (la : Int) := by omega
  have rlen : IntKind.i64.wrap ((ss.length : Int) - 1) = (la : Int) := by rw [hla2]; exact IntWalk.i64_in _ (by omega)
  have hnz : ((ss.length : Int) == 0) = false := by rw [beq_eq_false_iff_ne]; omega
  clear hla
  go_enter Try.func42, Try.ntmps42
  go_wp2_with fail
  refine (checkThin_any ⟨nm, sp, st, some ⟨b, off, none⟩, sc, ss, lo, lc, ls, to_, tc, ts⟩ most 300 _ (HA.out.grown (World.grownBy_alloc _ _ _)) HTE).mono ?_; rintro e w1 ⟨rfl, hg1⟩
  have G1 : w.grownBy w1 none := grown_trans (World.grownBy_alloc w (.cells #[.string nm, .int .i64 sp, .int .i64 st, .slice (some ⟨b, off, none⟩) ss.length sc, .slice lo ls.length lc, .slice to_ ts.length tc] 26) none) hg1
  have b3 : w1.cell? ⟨w.heap.size, 3, none⟩ = some (.slice (some ⟨b, off, none⟩) ss.length sc) := grown_cell hg1 (by go_simp)
  have hR0 : w.heap.size < w1.heap.size := by have := hg1.size; simp at this; omega
  have HAS := Lib.hid (HA.out.hs)
  clear hg1
  have HM0 : Hid (KpM w (some ⟨b, off, none⟩) ss.length sc w1.heap.size ss.length (fun _ => 0) (fun _ => 0) ((w1.alloc (.cells (madeCells #[.int .i64 0] ss.length) 3)).alloc (.cells (madeCells #[.int .i64 0] ss.length) 3))) := by
    refine ⟨grown_cell (grown_trans (World.grownBy_alloc _ _ _) (World.grownBy_alloc _ _ _)) b3, ?_, ?_, ((below_grown G1).alloc (Nat.le_of_lt hR0) _).alloc (by simp; omega) _⟩
    · unfold RowAt
      rw [Below.heap_alloc _ _ _ (by simp), heap_alloc_new, iRow_zero]
    · have q := heap_alloc_new (w1.alloc (.cells (madeCells #[.int .i64 0] ss.length) 3)) (.cells (madeCells #[.int .i64 0] ss.length) 3)
      have e : madeCells #[Value.int .i64 0] ss.length = iRow ss.length (fun _ => 0) := by rw [iRow_zero]
      unfold RowAt
      rw [← e]
      simpa using q
  have b31 : (w1.alloc (.cells (madeCells #[.int .i64 0] ss.length) 3)).cell? ⟨w.heap.size, 3, none⟩ = some (.slice (some ⟨b, off, none⟩) ss.length sc) := grown_cell (World.grownBy_alloc _ _ _) b3
  have HR : Hid (w.heap.size < w1.heap.size) := hR0
  clear G1 hR0
  go_upto_region 9 with (fail)
  obtain ⟨R, hR⟩ : ∃ R, w1.heap.size = R := ⟨_, rfl⟩
  have hRa : (w1.alloc (.cells (madeCells #[.int .i64 0] ss.length) 3)).heap.size = R + 1 := by rw [← hR]; simp
  try rw [hRa]
  try simp only [hR] at *
  generalize ((w1.alloc (.cells (madeCells #[.int .i64 0] ss.length) 3)).alloc (.cells (madeCells #[.int .i64 0] ss.length) 3)) = W2 at *
  clear b3 b31 hmk hRa hR
  have HL := Lib.hid hll
  have lan : la < ss.length := by have := HLA.out; omega
  have c0 := HM0.out.r2.cell (k := la) lan
  have fr0 := HM0.out.r2.free la
  have la1 : (la : Int) < (ss.length : Int) := by omega
  have la0 : (0 : Int) ≤ (la : Int) := by omega
  have HM1 : Hid (KpM w (some ⟨b, off, none⟩) ss.length sc R ss.length (fwF ss.length nr 0) (fwG ss.length nr 0) (W2.setCell ⟨R + 1, la, none⟩ (.int .i64 (-1)))) := by
    show KpM _ _ _ _ _ _ _ _ _
    refine (HM0.out.set2 HR.out la (-1)).congr (fun k hk => by simp [fwF, fwV]) (fun k hk => ?_)
    unfold updI fwG
    have := HLA.out
    by_cases e : k = la
    · rw [if_pos e, if_pos (by omega)]
    · rw [if_neg e, if_neg (by omega)]; simp [fwV]
  have rla : IntKind.i64.wrap ((la : Int) - 1) = (la : Int) - 1 := IntWalk.i64_in _ (by omega)
  clear HM0
  go_wp2_with fail
  clear c0 fr0
  go_loopw [10] (fun iv wr => ∃ (d : Nat), d ≤ la ∧ iv = .int .i64 ((la : Int) - 1 - d) ∧ Hid (KpM w (some ⟨b, off, none⟩) ss.length sc R ss.length (fwF ss.length nr d) (fwG ss.length nr d) wr))
    (fun iv _ => (intOf iv + 1).toNat)
  case atStart => exact ⟨0, Nat.zero_le _, by go_num, HM1.out⟩
  case round =>
    obtain ⟨d, hd, rfl, hM⟩ := hrel
    by_cases hlt : d < la
    · obtain ⟨i, hi⟩ : ∃ i : Nat, i = ss.length - 2 - d := ⟨_, rfl⟩
      have hLa := HLA.out
      have hi2 : (la : Int) - 1 - (d : Int) = (i : Int) := by omega
      have HI := Lib.hid hi
      obtain ⟨i1, hi1⟩ : ∃ i1 : Nat, i1 = i + 1 := ⟨_, rfl⟩
      have HI1 := Lib.hid hi1
      rw [hi2]
      have hin : i < ss.length := by omega
      have hi1n : i1 < ss.length := by omega
      have c1 := hM.out.r1.cell (k := i) hin
      have c3 := hM.out.r1.cell (k := i1) hi1n
      have hs3 : fwF ss.length nr d i1 = (((fwV ss.length nr d).1 i1 : Nat) : Int) := rfl
      rw [hs3] at c3
      have hsb := fw_le ss.length nr d i1
      obtain ⟨s, hs⟩ : ∃ s, (fwV ss.length nr d).1 i1 = s := ⟨_, rfl⟩
      rw [hs] at c3 hsb
      have HSV := Lib.hid hs
      have fr1 := hM.out.r1.free i
      have HM2 := hM.out.set1 HR.out i ((s : Int) + 1)
      have c2 := HM2.r2.cell (k := i) hin
      have fr2 := HM2.r2.free i
      have HM3 : Hid (KpM w (some ⟨b, off, none⟩) ss.length sc R ss.length (fwFm ss.length nr d 0) (fwGm ss.length nr d 0) ((wr.setCell ⟨R, i, none⟩ (.int .i64 ((s : Int) + 1))).setCell ⟨R + 1, i, none⟩ (.int .i64 (i1 : Int)))) := by
        have q := HM2.set2 HR.out i (i1 : Int)
        show KpM _ _ _ _ _ _ _ _ _
        have e1 : fwFm ss.length nr d 0 = updI (fwF ss.length nr d) i ((s : Int) + 1) := by
          unfold fwFm fwB; rw [← hi, ← hi1, hs]
        have e2 : fwGm ss.length nr d 0 = updI (fwG ss.length nr d) i (i1 : Int) := by
          unfold fwGm fwB; rw [← hi, ← hi1]
        rw [e1, e2]; exact q
      have hin2 : (i : Int) < (ss.length : Int) := by omega
      have hi0 : (0 : Int) ≤ (i : Int) := by omega
      have hin3 : (i1 : Int) < (ss.length : Int) := by omega
      have hi10 : (0 : Int) ≤ (i1 : Int) := by omega
      have wi1 : IntKind.i64.wrap ((i : Int) + 1) = (i1 : Int) := by rw [hi1]; exact IntWalk.i64_in _ (by omega)
      have wi2 : IntKind.i64.wrap ((i : Int) + 2) = (i : Int) + 2 := IntWalk.i64_in _ (by omega)
      have ws1 : IntKind.i64.wrap ((s : Int) + 1) = (s : Int) + 1 := IntWalk.i64_in _ (by omega)
      have wim : IntKind.i64.wrap ((i : Int) - 1) = (i : Int) - 1 := IntWalk.i64_in _ (by omega)
      clear HM2 hM hi hi1 hs hs3 hLa
      go_wp2_with fail
      clear c1 c2 c3 fr1 fr2
      go_loopw [11] (fun jv w3 => ∃ (m : Nat), m ≤ d ∧ jv = .int .i64 ((i : Int) + 2 + m) ∧ Hid (KpM w (some ⟨b, off, none⟩) ss.length sc R ss.length (fwFm ss.length nr d m) (fwGm ss.length nr d m) w3))
        (fun jv _ => ss.length - (intOf jv).toNat)
      case atStart => exact ⟨0, Nat.zero_le _, by go_num, HM3.out⟩
      case round =>
        obtain ⟨m, hm, rfl, hMi⟩ := hrel
        by_cases hml : m < d
        · obtain ⟨j, hj⟩ : ∃ j : Nat, j = i + 2 + m := ⟨_, rfl⟩
          have hj2 : (i : Int) + 2 + (m : Int) = (j : Int) := by omega
          have HJ := Lib.hid hj
          have hij : i < j := by omega
          have hjn : j < ss.length := by have := HI.out; have := HLA.out; omega
          have hjla : (j : Int) ≤ (la : Int) := by have := HLA.out; omega
          have hjn2 : (j : Int) < (ss.length : Int) := by omega
          have hj0 : (0 : Int) ≤ (j : Int) := by omega
          rw [hj2]
          have c1 : wr.cell? ⟨R, j, none⟩ = some (.int .i64 ((fwV ss.length nr d).1 j : Nat)) := by
            have q := hMi.out.r1.cell (k := j) hjn
            rw [fwFm_far (by have := HI.out; omega)] at q
            exact q
          have c2 : wr.cell? ⟨R, i, none⟩ = some (.int .i64 (((fwV ss.length nr d).1 (fwB (fwV ss.length nr d).1 (nr i) i m) : Nat) + 1)) := by
            have q := hMi.out.r1.cell (k := i) hin
            rw [fwFm_at HI.out] at q
            exact q
          have hbu := fw_le ss.length nr d j
          have hbv := fw_le ss.length nr d (fwB (fwV ss.length nr d).1 (nr i) i m)
          obtain ⟨u, hu⟩ : ∃ u, (fwV ss.length nr d).1 j = u := ⟨_, rfl⟩
          obtain ⟨v, hv⟩ : ∃ v, (fwV ss.length nr d).1 (fwB (fwV ss.length nr d).1 (nr i) i m) = v := ⟨_, rfl⟩
          rw [hu] at c1 hbu
          rw [hv] at c2 hbv
          have HU := Lib.hid hu; have HV := Lib.hid hv
          have wu : IntKind.i64.wrap ((u : Int) + 1) = (u : Int) + 1 := IntWalk.i64_in _ (by omega)
          have b3 := hMi.out.b3
          clear hbu hbv hu hv hj
          by_cases hle : u < v
          · obtain ⟨bb, hbb⟩ : ∃ bb, nr i j = bb := ⟨_, rfl⟩
            have HB : Hid (bb = true ↔ NearP ss i j (most * most)) := by
              show _ ↔ _
              rw [← hbb, ← HNR.out]; exact nrS_iff
            have HBB := Lib.hid hbb
            have HSW : Hid (∀ W : World, (wr.grownBy W none ∧ World.cell? W ⟨w.heap.size, 3, none⟩ = some (.slice (some ⟨b, off, none⟩) ss.length sc) ∧ World.cell? W ⟨R, j, none⟩ = some (.int .i64 (u : Nat)) ∧ World.cell? W ⟨R, i, none⟩ = some (.int .i64 ((v : Nat) + 1))) → SmpsAt W (some ⟨b, off, none⟩) ss) := fun W h => (HAS.out.grown (grown_below hMi.out.g)).grown h.1
            have g1 : decide (((u : Nat) : Int) + 1 < ((v : Nat) : Int) + 1) = true := by simp; omega
            have g2 : ((u : Nat) : Int) + 1 < ((v : Nat) : Int) + 1 := by omega
            have hS0 : (wr.grownBy wr none ∧ World.cell? wr ⟨w.heap.size, 3, none⟩ = some (.slice (some ⟨b, off, none⟩) ss.length sc) ∧ World.cell? wr ⟨R, j, none⟩ = some (.int .i64 (u : Nat)) ∧ World.cell? wr ⟨R, i, none⟩ = some (.int .i64 ((v : Nat) + 1))) := ⟨grown_refl _ _, b3, c1, c2⟩
            have hstep : ∀ W W' : World, (wr.grownBy W none ∧ World.cell? W ⟨w.heap.size, 3, none⟩ = some (.slice (some ⟨b, off, none⟩) ss.length sc) ∧ World.cell? W ⟨R, j, none⟩ = some (.int .i64 (u : Nat)) ∧ World.cell? W ⟨R, i, none⟩ = some (.int .i64 ((v : Nat) + 1))) → W.grownBy W' none → (wr.grownBy W' none ∧ World.cell? W' ⟨w.heap.size, 3, none⟩ = some (.slice (some ⟨b, off, none⟩) ss.length sc) ∧ World.cell? W' ⟨R, j, none⟩ = some (.int .i64 (u : Nat)) ∧ World.cell? W' ⟨R, i, none⟩ = some (.int .i64 ((v : Nat) + 1))) := fun W W' h g => ⟨grown_trans h.1 g, grown_cell g h.2.1, grown_cell g h.2.2.1, grown_cell g h.2.2.2⟩
            have hSd := hstep _ _ hS0 (grown_drewN wr none 1)
            have HSTEP := Lib.hid hstep; have HSD : Hid (wr.grownBy wr.drew none ∧ World.cell? wr.drew ⟨w.heap.size, 3, none⟩ = some (.slice (some ⟨b, off, none⟩) ss.length sc) ∧ World.cell? wr.drew ⟨R, j, none⟩ = some (.int .i64 (u : Nat)) ∧ World.cell? wr.drew ⟨R, i, none⟩ = some (.int .i64 ((v : Nat) + 1))) := hSd
            clear hS0 hstep hSd hbb
            go_wp2_with fail
            clear b3 c1 c2
            go_region_held3 (fun W => (wr.grownBy W none ∧ World.cell? W ⟨w.heap.size, 3, none⟩ = some (.slice (some ⟨b, off, none⟩) ss.length sc) ∧ World.cell? W ⟨R, j, none⟩ = some (.int .i64 (u : Nat)) ∧ World.cell? W ⟨R, i, none⟩ = some (.int .i64 ((v : Nat) + 1)))) (first | exact HSD.out | (refine HSTEP.out _ _ ?_ (by assumption) <;> assumption)) (first
              | (go_at_call 102; refine (near_is b off sc ss HS i j hij hjn most m0 m1 _ (HSW.out _ (by first | assumption | exact HSD.out)) HB).mono ?_; rintro x w7 ⟨rfl, hg7⟩))
            all_goals
              rename_i hfin
              obtain ⟨w9, hw9⟩ : ∃ w9, w9 = w7 := ⟨_, rfl⟩
              subst hw9
              have HM7 := hMi.out.grown hfin.1
              have c7 := hfin.2.2.1
              clear hfin HSTEP HSD
              cases bb with
              | false =>
                have HN : Hid (KpM w (some ⟨b, off, none⟩) ss.length sc R ss.length (fwFm ss.length nr d (m + 1)) (fwGm ss.length nr d (m + 1)) w9) := by
                  have e := fw_stay (n := ss.length) (nr := nr) (d := d) (m := m) HI.out (fun h => by have := HBB.out; rw [HJ.out] at this; rw [h.2] at this; cases this)
                  show KpM _ _ _ _ _ _ _ _ _
                  rw [e.1, e.2]; exact HM7
                clear HM7 c7 hMi
                go_wp2_with fail
                go_roundw
                case rel => exact ⟨m + 1, by omega, by rw [← hj2]; go_num, HN.out⟩
                case measure => first | (simp [intOf]; done) | (simp [intOf]; omega)
              | true =>
                have d1 := HM7.r1.cell (k := i) hin
                have e1 := HM7.r1.free i
                have HM8 := HM7.set1 HR.out i ((u : Nat) + 1)
                have d2 := HM8.r2.cell (k := i) hin
                have e2 := HM8.r2.free i
                have HN : Hid (KpM w (some ⟨b, off, none⟩) ss.length sc R ss.length (fwFm ss.length nr d (m + 1)) (fwGm ss.length nr d (m + 1)) ((w9.setCell ⟨R, i, none⟩ (.int .i64 ((u : Nat) + 1))).setCell ⟨R + 1, i, none⟩ (.int .i64 (j : Nat)))) := by
                  have e := fw_go (n := ss.length) (nr := nr) (d := d) (m := m) HI.out HJ.out (by rw [HU.out, HV.out]; exact hle) HBB.out
                  show KpM _ _ _ _ _ _ _ _ _
                  rw [e.1, e.2, HU.out]; exact HM8.set2 HR.out i j
                clear HM7 HM8 hMi
                go_wp2_with fail
                go_roundw
                case rel => exact ⟨m + 1, by omega, by rw [← hj2]; go_num, HN.out⟩
                case measure => first | (simp [intOf]; done) | (simp [intOf]; omega)
          · have g1 : decide (((u : Nat) : Int) + 1 < ((v : Nat) : Int) + 1) = false := by simp; omega
            have g2 : ¬ (((u : Nat) : Int) + 1 < ((v : Nat) : Int) + 1) := by omega
            go_wp2_with fail
            go_quiet (fail)
            have HN : Hid (KpM w (some ⟨b, off, none⟩) ss.length sc R ss.length (fwFm ss.length nr d (m + 1)) (fwGm ss.length nr d (m + 1)) (wr.drewN nq)) := by
              have e := fw_stay (n := ss.length) (nr := nr) (d := d) (m := m) HI.out (fun h => by have := h.1; rw [← HJ.out, HU.out, HV.out] at this; omega)
              show KpM _ _ _ _ _ _ _ _ _
              rw [e.1, e.2]; exact hMi.out.grown (grown_drewN _ _ _)
            clear hMi b3 c1 c2
            go_wp2_with fail
            go_roundw
            case rel => exact ⟨m + 1, by omega, by rw [← hj2]; go_num, HN.out⟩
            case measure => first | (simp [intOf]; done) | (simp [intOf]; omega)
        · obtain rfl : m = d := by omega
          have HN : Hid (KpM w (some ⟨b, off, none⟩) ss.length sc R ss.length (fwF ss.length nr (m + 1)) (fwG ss.length nr (m + 1)) wr) := by
            show KpM _ _ _ _ _ _ _ _ _
            rw [← fwFm_end, ← fwGm_end (by have := HLA.out; omega)]; exact hMi.out
          have hend : (i : Int) + 2 + (m : Int) = (ss.length : Int) := by have := HI.out; have := HLA.out; omega
          have hge : ¬ (ss.length : Int) ≤ (la : Int) := by have := HLA.out; omega
          rw [hend]
          clear hMi
          go_wp2_with fail
          go_roundw
          case rel => exact ⟨m + 1, by omega, by rw [← hi2]; go_num, HN.out⟩
          case measure => first | (simp [intOf]; done) | (simp [intOf]; omega)
    · obtain rfl : d = la := by omega
      have hLa := HLA.out
      have HG : Hid (∀ k, k < ss.length → k < fwN ss.length nr k ∧ fwN ss.length nr k ≤ ss.length) := fun k hk => fwN_in ss.length nr k hk
      have HE : Hid (∀ k, k < ss.length → fwG ss.length nr d k = encM ss.length (fwN ss.length nr k)) := fun k hk => by
        have := fwG_enc (n := ss.length) (nr := nr) k hk
        rw [← this]; congr 1; omega
      have HR2 := Lib.hid hM.out.r2
      have e0 : encM ss.length 0 = 0 := by unfold encM; rw [if_neg (by omega)]; rfl
      have KF : Hid (∀ V : World, RowAt V (R + 1) ss.length (fwG ss.length nr d) → Calls Try.prog 103 #[.slice (some ⟨R + 1, 0, none⟩) ss.length ss.length, .int .i64 0] V fun x w' => (∃ v k, x = .returned v ∧ PthEnd ss.length (fwN ss.length nr) 0 k ∧ w'.ownsRow V.heap.size 3 1 v k (pthVs (fwN ss.length nr) 0 k)) ∧ V.grownBy w' none) := fun V hV => by
        have := follow_any (R + 1) ss.length (by omega) (fwN ss.length nr) HG 0 (by omega) V hV HE
        rw [e0] at this; exact this
      have hneg : (d : Int) - 1 - (d : Int) = -1 := by omega
      rw [hneg]
      clear hLa HG HE e0
      go_wp2_with fail
      refine (KF.out _ HR2.out).mono ?_; rintro e w9 ⟨⟨v, k, rfl, hend, hown⟩, hg⟩
      have HEND := Lib.hid hend
      have HOWN := Lib.hid (own_low2 hown hM.out.g.size)
      have HG9 := Lib.hid (grown_trans (grown_below hM.out.g) hg)
      clear hend hown hg
      go_wp2_with fail
      go_ret2
      exact ⟨⟨v, k, rfl, HEND.out, HOWN.out⟩, HG9.out⟩
end Go.Proofs.Ytgkhhfojioepgaa
