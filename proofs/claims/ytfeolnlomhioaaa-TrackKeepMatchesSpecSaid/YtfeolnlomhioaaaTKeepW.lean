/- The contract of Keep where there is an answer: the walk. -/
import Derived.Test.YtfeolnlomhioaaaTKeepL
namespace Go.Proofs.Ytfeolnlomhioaaa
open Go.RowKit

set_option maxRecDepth 100000 in
set_option maxHeartbeats 4000000 in
theorem Keep_ok (nm : ByteArray) (sp st : Int) (so : Option Addr) (sc : Nat) (ss : List Smp) (lo : Option Addr) (lc : Nat) (ls : List LapV) (to_ : Option Addr) (tc : Nat) (ts : List ByteArray) (fast : Int) (f0 : 1 ≤ fast) (f1 : fast ≤ 100000) (hl : (ss.length : Int) ≤ 2000) (w : World)
    (HA : Hid (ActAt w ⟨nm, sp, st, so, sc, ss, lo, lc, ls, to_, tc, ts⟩)) (HCE : Hid (chkE ⟨nm, sp, st, so, sc, ss, lo, lc, ls, to_, tc, ts⟩ = 0)) (HP : Hid (∀ x ∈ ss, inPlane x)) (HT : Hid (∀ i j, i < j → j < ss.length → 0 ≤ (smpD ss j).t - (smpD ss i).t ∧ (smpD ss j).t - (smpD ss i).t ≤ 1000000)) :
    Calls Try.prog 26 #[.agg #[.string nm, .int .i64 sp, .int .i64 st, .slice so ss.length sc, .slice lo ls.length lc, .slice to_ ts.length tc], .int .i64 fast] w fun x w' => (∃ v k, x = .returned (.tuple #[v, .int .i64 0]) ∧ PthEnd ss.length (nextK ss.length (agS ss fast)) (kpV ss.length (agS ss fast) ss.length).2 k ∧ w'.ownsRow w.heap.size 3 1 v k (pthVs (nextK ss.length (agS ss fast)) (kpV ss.length (agS ss fast) ss.length).2 k)) ∧ w.grownBy w' none := by
  have hll : ss.length ≤ 2000 := by omega
  have hmk := run_make_row' (P := Try.prog) 45 3 (.int .i64 0) 8 Try.underlying45 info_int rfl .i64 .i64 ss.length (by omega) (by omega)
  obtain ⟨ag, hag⟩ : ∃ ag, agS ss fast = ag := ⟨_, rfl⟩
  have HAG := Lib.hid hag
  rw [hag]
  clear hag
  go_enter Try.func26, Try.ntmps26
  go_wp2_with fail
  refine (check_any ⟨nm, sp, st, so, sc, ss, lo, lc, ls, to_, tc, ts⟩ _ (HA.out.grown (World.grownBy_alloc _ _ _)) HCE).mono ?_; rintro e w1 ⟨rfl, hg1⟩
  have G1 : w.grownBy w1 none := grown_trans (World.grownBy_alloc w (.cells #[.string nm, .int .i64 sp, .int .i64 st, .slice so ss.length sc, .slice lo ls.length lc, .slice to_ ts.length tc] 26) none) hg1
  have b3 : w1.cell? ⟨w.heap.size, 3, none⟩ = some (.slice so ss.length sc) := grown_cell hg1 (by go_simp)
  have hR0 : w.heap.size < w1.heap.size := by have := hg1.size; simp at this; omega
  have HS1 := Lib.hid ((HA.out.grown G1).hs)
  have HSB := Lib.hid ((HA.out.hs).block)
  have HAS := Lib.hid (HA.out.hs)
  clear hg1
  have HM0 : Hid (KpM w so ss.length sc w1.heap.size ss.length (fun k => ((kpV ss.length ag 0).1 k : Nat)) (rowK ss.length ag (encM ss.length) 0) ((w1.alloc (.cells (madeCells #[.int .i64 0] ss.length) 3)).alloc (.cells (madeCells #[.int .i64 0] ss.length) 3))) := by
    refine ⟨grown_cell (grown_trans (World.grownBy_alloc _ _ _) (World.grownBy_alloc _ _ _)) b3, ?_, ?_, ((below_grown G1).alloc (Nat.le_of_lt hR0) _).alloc (by simp; omega) _⟩
    · unfold RowAt
      rw [Below.heap_alloc _ _ _ (by simp), heap_alloc_new, iRow_zero]
      rw [iRow_congr (G := fun k => ((kpV ss.length ag 0).1 k : Nat)) (fun k _ => by simp [kpV])]
    · have q := heap_alloc_new (w1.alloc (.cells (madeCells #[.int .i64 0] ss.length) 3)) (.cells (madeCells #[.int .i64 0] ss.length) 3)
      have e : madeCells #[Value.int .i64 0] ss.length = iRow ss.length (rowK ss.length ag (encM ss.length) 0) := by rw [iRow_zero, iRow_congr (G := rowK ss.length ag (encM ss.length) 0) (fun k hk => by unfold rowK; rw [if_neg (by omega)])]
      unfold RowAt
      rw [← e]
      simpa using q
  have b31 : (w1.alloc (.cells (madeCells #[.int .i64 0] ss.length) 3)).cell? ⟨w.heap.size, 3, none⟩ = some (.slice so ss.length sc) := grown_cell (World.grownBy_alloc _ _ _) b3
  have b32 : ((w1.alloc (.cells (madeCells #[.int .i64 0] ss.length) 3)).alloc (.cells (madeCells #[.int .i64 0] ss.length) 3)).cell? ⟨w.heap.size, 3, none⟩ = some (.slice so ss.length sc) := grown_cell (World.grownBy_alloc _ _ _) b31
  have GW := Lib.hid G1
  have HR : Hid (w.heap.size < w1.heap.size) := hR0
  clear G1 hR0
  go_wp2_with fail
  refine (twithin_yes _ _ _ f0 f1 _).mono ?_; rintro e w2 ⟨rfl, rfl⟩
  have hcap : decide ((2000 : Int) < (ss.length : Int)) = false := by simp; omega
  have rlen : IntKind.i64.wrap ((ss.length : Int) - 1) = (ss.length : Int) - 1 := IntWalk.i64_in _ (by omega)
  go_wp2_with fail
  generalize w1.heap.size = R at *
  have HL := Lib.hid hll
  clear b3 b31 b32 hmk
  go_loopw [9, 10] (fun fv iv wr => ∃ (d : Nat) (F : Int), d ≤ ss.length ∧ Hid (F = encM ss.length (kpV ss.length ag d).2) ∧ fv = .int .i64 F ∧ iv = .int .i64 ((ss.length : Int) - 1 - d) ∧ Hid (KpM w so ss.length sc R ss.length (fun k => ((kpV ss.length ag d).1 k : Nat)) (rowK ss.length ag (encM ss.length) d) wr))
    (fun _ iv _ => (intOf iv + 1).toNat)
  case atStart => exact ⟨0, -1, Nat.zero_le _, by show _ = _; simp [kpV, encM], rfl, by go_num, HM0.out⟩
  case round =>
    obtain ⟨d, F, hd, hF, rfl, rfl, hM⟩ := hrel
    by_cases hlt : d < ss.length
    · obtain ⟨i, hi⟩ : ∃ i : Nat, i = ss.length - 1 - d := ⟨_, rfl⟩
      have hi2 : (ss.length : Int) - 1 - (d : Int) = (i : Int) := by omega
      have HI := Lib.hid hi
      rw [hi2]
      have c1 := hM.out.r1.cell (k := i) (by omega)
      have fr1 := hM.out.r1.free i
      have HM1 := hM.out.set1 HR.out i 1
      have c2 := HM1.r2.cell (k := i) (by omega)
      have fr2 := HM1.r2.free i
      have HM2 : Hid (KpM w so ss.length sc R ss.length (rowF ss.length ag d 0) (rowG ss.length ag d 0) ((wr.setCell ⟨R, i, none⟩ (.int .i64 1)).setCell ⟨R + 1, i, none⟩ (.int .i64 (-1)))) := by
        show KpM _ _ _ _ _ _ _ _ _
        rw [rowF_zero hlt, rowG_zero, ← hi]
        exact HM1.set2 HR.out i (-1)
      have b3 := hM.out.b3
      have hin : i < ss.length := by omega
      have hin2 : (i : Int) < (ss.length : Int) := by omega
      have hi0 : (0 : Int) ≤ (i : Int) := by omega
      have b33 := HM2.out.b3
      clear HM1 hM hi
      go_wp2_with fail
      clear c1 c2 fr1 fr2 b3 b33
      go_loopw [11] (fun jv w3 => ∃ (m : Nat), m ≤ d ∧ jv = .int .i64 ((ss.length : Int) - 1 - m) ∧ Hid (KpM w so ss.length sc R ss.length (rowF ss.length ag d m) (rowG ss.length ag d m) w3))
        (fun jv _ => (intOf jv + 1).toNat)
      case atStart => exact ⟨0, Nat.zero_le _, by go_num, HM2.out⟩
      case round =>
        obtain ⟨m, hm, rfl, hMi⟩ := hrel
        by_cases hml : m < d
        · obtain ⟨j, hj⟩ : ∃ j : Nat, j = ss.length - 1 - m := ⟨_, rfl⟩
          have hj2 : (ss.length : Int) - 1 - (m : Int) = (j : Int) := by omega
          have HJ := Lib.hid hj
          have hij : i < j := by have := HI.out; omega
          have hjn : j < ss.length := by omega
          have hjn2 : (j : Int) < (ss.length : Int) := by omega
          have hj0 : (0 : Int) ≤ (j : Int) := by omega
          have hji : (i : Int) < (j : Int) := by omega
          rw [hj2]
          have hbd := (kp_bd ss.length ag d (by omega)).1
          have c1 : wr.cell? ⟨R, j, none⟩ = some (.int .i64 ((kpV ss.length ag d).1 j : Nat)) := by
            have q := hMi.out.r1.cell (k := j) hjn
            rw [rowF_far (by have := HI.out; omega)] at q
            exact q
          have c2 : wr.cell? ⟨R, i, none⟩ = some (.int .i64 (((kpV ss.length ag d).1 (nxt ss.length (kpV ss.length ag d).1 (ag (ss.length - 1 - d)) m) : Nat) + 1)) := by
            have q := hMi.out.r1.cell (k := ss.length - 1 - d) (by omega)
            rw [rowF_at] at q
            rw [HI.out]; exact q
          obtain ⟨u, hu⟩ : ∃ u, (kpV ss.length ag d).1 j = u := ⟨_, rfl⟩
          obtain ⟨v, hv⟩ : ∃ v, (kpV ss.length ag d).1 (nxt ss.length (kpV ss.length ag d).1 (ag (ss.length - 1 - d)) m) = v := ⟨_, rfl⟩
          have hub : u ≤ 2000 := by rw [← hu]; exact Nat.le_trans (hbd j) (by omega)
          have hvb : v ≤ 2000 := by rw [← hv]; exact Nat.le_trans (hbd _) (by omega)
          rw [hu] at c1
          rw [hv] at c2
          have HU := Lib.hid hu; have HV := Lib.hid hv
          have wu : IntKind.i64.wrap ((u : Int) + 1) = (u : Int) + 1 := IntWalk.i64_in _ (by omega)
          have b3 := hMi.out.b3
          clear hbd hu hv hj
          by_cases hle : v ≤ u
          · obtain ⟨b, off, rfl⟩ : ∃ b off, so = some ⟨b, off, none⟩ := by
              have hne : ss ≠ [] := fun h => by rw [h] at hin; simp at hin
              cases so with
              | none => exact absurd (HAS.out.nil rfl) hne
              | some p =>
                obtain ⟨b, off, spot⟩ := p
                have hsp := HAS.out.spot _ rfl hne
                simp only at hsp
                subst hsp
                exact ⟨b, off, rfl⟩
            have HSW := HAS.out.grown (grown_below hMi.out.g)
            obtain ⟨p0, p1, p2, p3, p4, p5, p6⟩ := HSW.cells _ rfl i hin
            obtain ⟨q0, q1, q2, q3, q4, q5, q6⟩ := HSW.cells _ rfl j hjn
            rw [← smpD_at hin] at p0 p1 p2 p3 p4 p5 p6
            rw [← smpD_at hjn] at q0 q1 q2 q3 q4 q5 q6
            have HPP := Lib.hid (smpD_plane HP.out i)
            have HQP := Lib.hid (smpD_plane HP.out j)
            have HTT := Lib.hid (HT.out i j hij hjn)
            obtain ⟨bb, hbb⟩ : ∃ bb, ag i j = bb := ⟨_, rfl⟩
            have HB : Hid (agr (smpD ss i) (smpD ss j) fast = bb) := by show _ = _; rw [← hbb, ← HAG.out]; rfl
            have HBB := Lib.hid hbb
            clear HSW hbb
            generalize smpD ss i = P at *
            generalize smpD ss j = Q at *
            obtain ⟨pt, px, py, pz, pp, pq, ps⟩ := P
            obtain ⟨qt, qx, qy, qz, qp, qq, qs⟩ := Q
            simp only at p0 p1 p2 p3 p4 p5 p6 q0 q1 q2 q3 q4 q5 q6
            have g1 : decide (((v : Nat) : Int) + 1 ≤ ((u : Nat) : Int) + 1) = true := by simp; omega
            have g2 : ((v : Nat) : Int) + 1 ≤ ((u : Nat) : Int) + 1 := by omega
            have hS0 : (wr.grownBy wr none ∧ World.cell? wr ⟨w.heap.size, 3, none⟩ = some (.slice (some ⟨b, off, none⟩) ss.length sc) ∧ World.cell? wr ⟨R, j, none⟩ = some (.int .i64 (u : Nat)) ∧ World.cell? wr ⟨R, i, none⟩ = some (.int .i64 ((v : Nat) + 1)) ∧ World.cell? wr ⟨b, off + i * 7, none⟩ = some (.int .i64 pt) ∧ World.cell? wr ⟨b, off + i * 7 + 1, none⟩ = some (.int .i64 px) ∧ World.cell? wr ⟨b, off + i * 7 + 2, none⟩ = some (.int .i64 py) ∧ World.cell? wr ⟨b, off + i * 7 + 3, none⟩ = some (.int .i64 pz) ∧ World.cell? wr ⟨b, off + i * 7 + 4, none⟩ = some (.int .i64 pp) ∧ World.cell? wr ⟨b, off + i * 7 + 5, none⟩ = some (.int .i64 pq) ∧ World.cell? wr ⟨b, off + i * 7 + 6, none⟩ = some (.int .i64 ps) ∧ World.cell? wr ⟨b, off + j * 7, none⟩ = some (.int .i64 qt) ∧ World.cell? wr ⟨b, off + j * 7 + 1, none⟩ = some (.int .i64 qx) ∧ World.cell? wr ⟨b, off + j * 7 + 2, none⟩ = some (.int .i64 qy) ∧ World.cell? wr ⟨b, off + j * 7 + 3, none⟩ = some (.int .i64 qz) ∧ World.cell? wr ⟨b, off + j * 7 + 4, none⟩ = some (.int .i64 qp) ∧ World.cell? wr ⟨b, off + j * 7 + 5, none⟩ = some (.int .i64 qq) ∧ World.cell? wr ⟨b, off + j * 7 + 6, none⟩ = some (.int .i64 qs)) := ⟨grown_refl _ _, b3, c1, c2, p0, p1, p2, p3, p4, p5, p6, q0, q1, q2, q3, q4, q5, q6⟩
            have hstep : ∀ W W' : World, (wr.grownBy W none ∧ World.cell? W ⟨w.heap.size, 3, none⟩ = some (.slice (some ⟨b, off, none⟩) ss.length sc) ∧ World.cell? W ⟨R, j, none⟩ = some (.int .i64 (u : Nat)) ∧ World.cell? W ⟨R, i, none⟩ = some (.int .i64 ((v : Nat) + 1)) ∧ World.cell? W ⟨b, off + i * 7, none⟩ = some (.int .i64 pt) ∧ World.cell? W ⟨b, off + i * 7 + 1, none⟩ = some (.int .i64 px) ∧ World.cell? W ⟨b, off + i * 7 + 2, none⟩ = some (.int .i64 py) ∧ World.cell? W ⟨b, off + i * 7 + 3, none⟩ = some (.int .i64 pz) ∧ World.cell? W ⟨b, off + i * 7 + 4, none⟩ = some (.int .i64 pp) ∧ World.cell? W ⟨b, off + i * 7 + 5, none⟩ = some (.int .i64 pq) ∧ World.cell? W ⟨b, off + i * 7 + 6, none⟩ = some (.int .i64 ps) ∧ World.cell? W ⟨b, off + j * 7, none⟩ = some (.int .i64 qt) ∧ World.cell? W ⟨b, off + j * 7 + 1, none⟩ = some (.int .i64 qx) ∧ World.cell? W ⟨b, off + j * 7 + 2, none⟩ = some (.int .i64 qy) ∧ World.cell? W ⟨b, off + j * 7 + 3, none⟩ = some (.int .i64 qz) ∧ World.cell? W ⟨b, off + j * 7 + 4, none⟩ = some (.int .i64 qp) ∧ World.cell? W ⟨b, off + j * 7 + 5, none⟩ = some (.int .i64 qq) ∧ World.cell? W ⟨b, off + j * 7 + 6, none⟩ = some (.int .i64 qs)) → W.grownBy W' none → (wr.grownBy W' none ∧ World.cell? W' ⟨w.heap.size, 3, none⟩ = some (.slice (some ⟨b, off, none⟩) ss.length sc) ∧ World.cell? W' ⟨R, j, none⟩ = some (.int .i64 (u : Nat)) ∧ World.cell? W' ⟨R, i, none⟩ = some (.int .i64 ((v : Nat) + 1)) ∧ World.cell? W' ⟨b, off + i * 7, none⟩ = some (.int .i64 pt) ∧ World.cell? W' ⟨b, off + i * 7 + 1, none⟩ = some (.int .i64 px) ∧ World.cell? W' ⟨b, off + i * 7 + 2, none⟩ = some (.int .i64 py) ∧ World.cell? W' ⟨b, off + i * 7 + 3, none⟩ = some (.int .i64 pz) ∧ World.cell? W' ⟨b, off + i * 7 + 4, none⟩ = some (.int .i64 pp) ∧ World.cell? W' ⟨b, off + i * 7 + 5, none⟩ = some (.int .i64 pq) ∧ World.cell? W' ⟨b, off + i * 7 + 6, none⟩ = some (.int .i64 ps) ∧ World.cell? W' ⟨b, off + j * 7, none⟩ = some (.int .i64 qt) ∧ World.cell? W' ⟨b, off + j * 7 + 1, none⟩ = some (.int .i64 qx) ∧ World.cell? W' ⟨b, off + j * 7 + 2, none⟩ = some (.int .i64 qy) ∧ World.cell? W' ⟨b, off + j * 7 + 3, none⟩ = some (.int .i64 qz) ∧ World.cell? W' ⟨b, off + j * 7 + 4, none⟩ = some (.int .i64 qp) ∧ World.cell? W' ⟨b, off + j * 7 + 5, none⟩ = some (.int .i64 qq) ∧ World.cell? W' ⟨b, off + j * 7 + 6, none⟩ = some (.int .i64 qs)) := fun W W' h g => ⟨grown_trans h.1 g, grown_cell g h.2.1, grown_cell g h.2.2.1, grown_cell g h.2.2.2.1, grown_cell g h.2.2.2.2.1, grown_cell g h.2.2.2.2.2.1, grown_cell g h.2.2.2.2.2.2.1, grown_cell g h.2.2.2.2.2.2.2.1, grown_cell g h.2.2.2.2.2.2.2.2.1, grown_cell g h.2.2.2.2.2.2.2.2.2.1, grown_cell g h.2.2.2.2.2.2.2.2.2.2.1, grown_cell g h.2.2.2.2.2.2.2.2.2.2.2.1, grown_cell g h.2.2.2.2.2.2.2.2.2.2.2.2.1, grown_cell g h.2.2.2.2.2.2.2.2.2.2.2.2.2.1, grown_cell g h.2.2.2.2.2.2.2.2.2.2.2.2.2.2.1, grown_cell g h.2.2.2.2.2.2.2.2.2.2.2.2.2.2.2.1, grown_cell g h.2.2.2.2.2.2.2.2.2.2.2.2.2.2.2.2.1, grown_cell g h.2.2.2.2.2.2.2.2.2.2.2.2.2.2.2.2.2⟩
            have hSd : (wr.grownBy wr.drew none ∧ World.cell? wr.drew ⟨w.heap.size, 3, none⟩ = some (.slice (some ⟨b, off, none⟩) ss.length sc) ∧ World.cell? wr.drew ⟨R, j, none⟩ = some (.int .i64 (u : Nat)) ∧ World.cell? wr.drew ⟨R, i, none⟩ = some (.int .i64 ((v : Nat) + 1)) ∧ World.cell? wr.drew ⟨b, off + i * 7, none⟩ = some (.int .i64 pt) ∧ World.cell? wr.drew ⟨b, off + i * 7 + 1, none⟩ = some (.int .i64 px) ∧ World.cell? wr.drew ⟨b, off + i * 7 + 2, none⟩ = some (.int .i64 py) ∧ World.cell? wr.drew ⟨b, off + i * 7 + 3, none⟩ = some (.int .i64 pz) ∧ World.cell? wr.drew ⟨b, off + i * 7 + 4, none⟩ = some (.int .i64 pp) ∧ World.cell? wr.drew ⟨b, off + i * 7 + 5, none⟩ = some (.int .i64 pq) ∧ World.cell? wr.drew ⟨b, off + i * 7 + 6, none⟩ = some (.int .i64 ps) ∧ World.cell? wr.drew ⟨b, off + j * 7, none⟩ = some (.int .i64 qt) ∧ World.cell? wr.drew ⟨b, off + j * 7 + 1, none⟩ = some (.int .i64 qx) ∧ World.cell? wr.drew ⟨b, off + j * 7 + 2, none⟩ = some (.int .i64 qy) ∧ World.cell? wr.drew ⟨b, off + j * 7 + 3, none⟩ = some (.int .i64 qz) ∧ World.cell? wr.drew ⟨b, off + j * 7 + 4, none⟩ = some (.int .i64 qp) ∧ World.cell? wr.drew ⟨b, off + j * 7 + 5, none⟩ = some (.int .i64 qq) ∧ World.cell? wr.drew ⟨b, off + j * 7 + 6, none⟩ = some (.int .i64 qs)) := hstep _ _ hS0 (grown_drewN _ _ 1)
            have HSTEP := Lib.hid hstep; have HSD := Lib.hid hSd
            clear hS0 hstep hSd
            go_wp2_with fail
            clear b3 c1 c2 p0 p1 p2 p3 p4 p5 p6 q0 q1 q2 q3 q4 q5 q6
            go_region_held3 (fun W => (wr.grownBy W none ∧ World.cell? W ⟨w.heap.size, 3, none⟩ = some (.slice (some ⟨b, off, none⟩) ss.length sc) ∧ World.cell? W ⟨R, j, none⟩ = some (.int .i64 (u : Nat)) ∧ World.cell? W ⟨R, i, none⟩ = some (.int .i64 ((v : Nat) + 1)) ∧ World.cell? W ⟨b, off + i * 7, none⟩ = some (.int .i64 pt) ∧ World.cell? W ⟨b, off + i * 7 + 1, none⟩ = some (.int .i64 px) ∧ World.cell? W ⟨b, off + i * 7 + 2, none⟩ = some (.int .i64 py) ∧ World.cell? W ⟨b, off + i * 7 + 3, none⟩ = some (.int .i64 pz) ∧ World.cell? W ⟨b, off + i * 7 + 4, none⟩ = some (.int .i64 pp) ∧ World.cell? W ⟨b, off + i * 7 + 5, none⟩ = some (.int .i64 pq) ∧ World.cell? W ⟨b, off + i * 7 + 6, none⟩ = some (.int .i64 ps) ∧ World.cell? W ⟨b, off + j * 7, none⟩ = some (.int .i64 qt) ∧ World.cell? W ⟨b, off + j * 7 + 1, none⟩ = some (.int .i64 qx) ∧ World.cell? W ⟨b, off + j * 7 + 2, none⟩ = some (.int .i64 qy) ∧ World.cell? W ⟨b, off + j * 7 + 3, none⟩ = some (.int .i64 qz) ∧ World.cell? W ⟨b, off + j * 7 + 4, none⟩ = some (.int .i64 qp) ∧ World.cell? W ⟨b, off + j * 7 + 5, none⟩ = some (.int .i64 qq) ∧ World.cell? W ⟨b, off + j * 7 + 6, none⟩ = some (.int .i64 qs))) (first | exact HSD.out | (refine HSTEP.out _ _ ?_ (by assumption) <;> assumption)) (first
              | (go_at_call 74; refine (agree_is ⟨pt, px, py, pz, pp, pq, ps⟩ ⟨qt, qx, qy, qz, qp, qq, qs⟩ HPP.out HQP.out fast f0 f1 HTT.out.1 HTT.out.2 _ HB).mono ?_; rintro x w7 ⟨rfl, hg7⟩))
            all_goals
              rename_i hfin
              obtain ⟨w9, hw9⟩ : ∃ w9, w9 = w7 := ⟨_, rfl⟩
              subst hw9
              have HM7 := hMi.out.grown hfin.1
              have c7 := hfin.2.2.1
              clear hfin HSTEP HSD
              cases bb with
              | false =>
                have HN : Hid (KpM w (some ⟨b, off, none⟩) ss.length sc R ss.length (rowF ss.length ag d (m + 1)) (rowG ss.length ag d (m + 1)) w9) := by
                  have e := rows_stay (n := ss.length) (ag := ag) (d := d) (m := m) HJ.out (fun h => by have := HBB.out; rw [HI.out] at this; rw [h.1] at this; cases this)
                  show KpM _ _ _ _ _ _ _ _ _
                  rw [e.1, e.2]; exact HM7
                clear HM7 c7 hMi
                go_wp2_with fail
                go_roundw
                case rel => exact ⟨m + 1, by omega, by go_num, HN.out⟩
                case measure => first | (simp [intOf]; done) | (simp [intOf]; omega)
              | true =>
                have d1 := HM7.r1.cell (k := i) hin
                have e1 := HM7.r1.free i
                have HM8 := HM7.set1 HR.out i ((u : Nat) + 1)
                have d2 := HM8.r2.cell (k := i) hin
                have e2 := HM8.r2.free i
                have HN : Hid (KpM w (some ⟨b, off, none⟩) ss.length sc R ss.length (rowF ss.length ag d (m + 1)) (rowG ss.length ag d (m + 1)) ((w9.setCell ⟨R, i, none⟩ (.int .i64 ((u : Nat) + 1))).setCell ⟨R + 1, i, none⟩ (.int .i64 (j : Nat)))) := by
                  have e := rows_go (n := ss.length) (ag := ag) (d := d) (m := m) hml hlt HJ.out (by rw [← HI.out]; exact HBB.out) (by rw [HU.out, HV.out]; exact hle)
                  show KpM _ _ _ _ _ _ _ _ _
                  rw [e.1, e.2, HU.out, ← HI.out]; exact HM8.set2 HR.out i j
                clear HM7 HM8 hMi
                go_wp2_with fail
                go_roundw
                case rel => exact ⟨m + 1, by omega, by go_num, HN.out⟩
                case measure => first | (simp [intOf]; done) | (simp [intOf]; omega)
          · have g1 : decide (((v : Nat) : Int) + 1 ≤ ((u : Nat) : Int) + 1) = false := by simp; omega
            have g2 : ¬ (((v : Nat) : Int) + 1 ≤ ((u : Nat) : Int) + 1) := by omega
            go_wp2_with fail
            go_quiet (fail)
            have HN : Hid (KpM w so ss.length sc R ss.length (rowF ss.length ag d (m + 1)) (rowG ss.length ag d (m + 1)) (wr.drewN nq)) := by
              have e := rows_stay (n := ss.length) (ag := ag) (d := d) (m := m) HJ.out (fun h => by have := h.2; rw [HU.out, HV.out] at this; omega)
              show KpM _ _ _ _ _ _ _ _ _
              rw [e.1, e.2]; exact hMi.out.grown (grown_drewN _ _ _)
            clear hMi b3 c1 c2
            go_wp2_with fail
            go_roundw
            case rel => exact ⟨m + 1, by omega, by go_num, HN.out⟩
            case measure => first | (simp [intOf]; done) | (simp [intOf]; omega)
        · obtain rfl : m = d := by omega
          rw [hi2]
          have HN : Hid (KpM w so ss.length sc R ss.length (fun k => ((kpV ss.length ag (m + 1)).1 k : Nat)) (rowK ss.length ag (encM ss.length) (m + 1)) wr) := hMi.out.congr (fun k _ => rowF_end k) (fun k _ => by rw [rowG_end hlt])
          have hL : (kpV ss.length ag (m + 1)).2 = if (kpV ss.length ag (m + 1)).1 (kpV ss.length ag m).2 ≤ (kpV ss.length ag (m + 1)).1 (ss.length - 1 - m) then ss.length - 1 - m else (kpV ss.length ag m).2 := rfl
          have hkb := kp_bd ss.length ag m (by omega)
          have hkb1 := kp_bd ss.length ag (m + 1) (by omega)
          have hi3 : (i : Int) - 1 = (ss.length : Int) - 1 - ((m + 1 : Nat) : Int) := by omega
          have ri : IntKind.i64.wrap ((i : Int) - 1) = (i : Int) - 1 := IntWalk.i64_in _ (by omega)
          have ei : encM ss.length i = (i : Int) := by unfold encM; rw [if_neg (by omega)]
          have HMi := hMi
          clear hMi
          by_cases hd0 : m = 0
          · subst hd0
            obtain rfl : F = -1 := by rw [hF.out]; simp [kpV, encM]
            have HF2 : Hid ((i : Int) = encM ss.length (kpV ss.length ag (0 + 1)).2) := by
              show _ = _
              rw [hL, if_pos (by
                have : (kpV ss.length ag 0).2 = ss.length := rfl
                rw [this, hkb1.2.1 ss.length (by omega)]; exact Nat.zero_le _), ← HI.out, ei]
            clear hkb hkb1 hL
            go_wp2_with fail
            go_quiet (fail)
            go_wp2_with fail
            go_roundw
            case rel => exact ⟨0 + 1, i, by omega, HF2.out, rfl, by rw [← hi3]; go_num, HN.out.grown (grown_drewN _ _ _)⟩
            case measure => first | (simp [intOf]; done) | (simp [intOf]; omega)
          · obtain ⟨f, hf⟩ : ∃ f, (kpV ss.length ag m).2 = f := ⟨_, rfl⟩
            have hfn : f < ss.length := by rw [← hf]; exact hkb.2.2.2.2 (by omega)
            obtain rfl : F = (f : Int) := by rw [hF.out, hf]; unfold encM; rw [if_neg (by omega)]
            have c1 : wr.cell? ⟨R, i, none⟩ = some (.int .i64 ((kpV ss.length ag (m + 1)).1 i : Nat)) := HN.out.r1.cell hin
            have c2 : wr.cell? ⟨R, f, none⟩ = some (.int .i64 ((kpV ss.length ag (m + 1)).1 f : Nat)) := HN.out.r1.cell hfn
            rw [hf, ← HI.out] at hL
            obtain ⟨u, hu⟩ : ∃ u, (kpV ss.length ag (m + 1)).1 i = u := ⟨_, rfl⟩
            obtain ⟨v, hv⟩ : ∃ v, (kpV ss.length ag (m + 1)).1 f = v := ⟨_, rfl⟩
            rw [hu, hv] at hL
            rw [hu] at c1
            rw [hv] at c2
            have f0' : decide ((f : Int) < 0) = false := by simp
            have f1' : (0 : Int) ≤ (f : Int) := by omega
            have f2' : (f : Int) < (ss.length : Int) := by omega
            by_cases hle : v ≤ u
            · have HF2 : Hid ((i : Int) = encM ss.length (kpV ss.length ag (m + 1)).2) := by
                show _ = _; rw [hL, if_pos hle, ei]
              have g1 : decide (((v : Nat) : Int) ≤ ((u : Nat) : Int)) = true := by simp; omega
              clear hkb hkb1 hL hF hf hu hv
              go_wp2_with fail
              go_quiet (fail)
              go_wp2_with fail
              go_roundw
              case rel => exact ⟨m + 1, i, by omega, HF2.out, rfl, by rw [← hi3]; go_num, HN.out.grown (grown_drewN _ _ _)⟩
              case measure => first | (simp [intOf]; done) | (simp [intOf]; omega)
            · have HF2 : Hid ((f : Int) = encM ss.length (kpV ss.length ag (m + 1)).2) := by
                show _ = _; rw [hL, if_neg hle]; unfold encM; rw [if_neg (by omega)]
              have g1 : decide (((v : Nat) : Int) ≤ ((u : Nat) : Int)) = false := by simp; omega
              clear hkb hkb1 hL hF hf hu hv
              go_wp2_with fail
              go_quiet (fail)
              go_wp2_with fail
              go_roundw
              case rel => exact ⟨m + 1, f, by omega, HF2.out, rfl, by rw [← hi3]; go_num, HN.out.grown (grown_drewN _ _ _)⟩
              case measure => first | (simp [intOf]; done) | (simp [intOf]; omega)
    · obtain rfl : d = ss.length := by omega
      have hF' := hF.out
      subst hF'
      have HG : Hid (∀ k, k < ss.length → k < nextK ss.length ag k ∧ nextK ss.length ag k ≤ ss.length) := fun k hk => nextK_in ss.length ag k hk
      have HE : Hid (∀ k, k < ss.length → rowK ss.length ag (encM ss.length) ss.length k = encM ss.length (nextK ss.length ag k)) := fun k hk => by
        unfold rowK; rw [if_pos (by omega)]
      have hfb := (kp_bd ss.length ag ss.length (Nat.le_refl _)).2.2.1
      have HR2 := Lib.hid hM.out.r2
      obtain ⟨f, hf⟩ : ∃ f, (kpV ss.length ag ss.length).2 = f := ⟨_, rfl⟩
      obtain ⟨gg, hgg⟩ : ∃ gg, nextK ss.length ag = gg := ⟨_, rfl⟩
      rw [hf] at hfb
      rw [hf]
      rw [hgg] at HG HE
      have HFQ := Lib.hid hf; have HGQ := Lib.hid hgg
      clear hf hgg
      have hneg : (ss.length : Int) - 1 - (ss.length : Int) = -1 := by omega
      rw [hneg]
      go_wp2_with fail
      refine (follow_any (R + 1) ss.length (by omega) gg HG f hfb _ HR2.out HE).mono ?_; rintro e w9 ⟨⟨v, k, rfl, hend, hown⟩, hg⟩
      have HEND := Lib.hid hend
      have HOWN := Lib.hid (own_low2 hown hM.out.g.size)
      have HG9 := Lib.hid (grown_trans (grown_below hM.out.g) hg)
      clear hend hown hg
      go_wp2_with fail
      go_ret2
      exact ⟨⟨v, k, rfl, by rw [HFQ.out, HGQ.out]; exact HEND.out, by rw [HFQ.out, HGQ.out]; exact HOWN.out⟩, HG9.out⟩
end Go.Proofs.Ytfeolnlomhioaaa
