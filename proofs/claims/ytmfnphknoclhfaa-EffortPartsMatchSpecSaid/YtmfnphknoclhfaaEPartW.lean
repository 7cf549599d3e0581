/- The contract of partOf. -/
import Derived.Test.YtmfnphknoclhfaaEPartQ
import Derived.Test.YtmfnphknoclhfaaEApp
import Derived.Test.YtmfnphknoclhfaaEPartR5
import Derived.Test.YtmfnphknoclhfaaEPartR8
import Derived.Test.YtmfnphknoclhfaaEPartR9
import Derived.Test.YtmfnphknoclhfaaEPartR10
import Derived.Test.YtmfnphknoclhfaaEPartR11
namespace Go.Proofs.Ytmfnphknoclhfaa
open Go.RowKit

set_option maxRecDepth 100000 in
set_option maxHeartbeats 12800000 in
theorem partOf_some (nm : ByteArray) (sp st : Int) (b off sc : Nat) (ss : List Smp) (lo : Option Addr) (lc : Nat) (ls : List LapV) (to_ : Option Addr) (tc : Nat) (ts : List ByteArray) (f t : Int) (hft : f ≤ t) (f0 : 0 ≤ f) (t1 : t ≤ 1000000) (hn : 0 < ss.length) (w : World) (hs : SmpsAt w (some ⟨b, off, none⟩) ss) (hi : SmpsIn ss) {x : Prt} (hx : Hid (prtN ss f t (ss.length - 1) = x)) :
    Calls Try.prog 97 #[.agg #[.string nm, .int .i64 sp, .int .i64 st, .slice (some ⟨b, off, none⟩) ss.length sc, .slice lo ls.length lc, .slice to_ ts.length tc], .int .i64 f, .int .i64 t] w fun e w' => e = .returned (.agg (x.cells f t)) ∧ w.grownBy w' none := by
  have HS := Lib.hid hs; have HI := Lib.hid hi
  have hlen := hi.len
  have HP0 : Hid (PoS w (((w.alloc (.cells #[.string nm, .int .i64 sp, .int .i64 st, .slice (some ⟨b, off, none⟩) ss.length sc, .slice lo ls.length lc, .slice to_ ts.length tc] 42)).alloc (.cells #[.int .i64 0, .int .i64 0, .int .i64 0, .int .i64 0, .int .i64 0, .int .i64 0, .int .i64 0, .int .i64 0, .int .i64 0, .int .i64 0] 44)).alloc (.cells #[.int .i64 f, .int .i64 t, .int .i64 0, .int .i64 0, .int .i64 0, .int .i64 0, .int .i64 0, .int .i64 0, .int .i64 0, .int .i64 0] 44)) (.slice (some ⟨b, off, none⟩) ss.length sc) f t (prtN ss f t 0)) := by
    have e : prtN ss f t 0 = ⟨0, 0, 0, 0, 0, 0, 0, 0⟩ := by simp [prtN, sumG]
    rw [e]
    refine ⟨grown_trans (grown_trans (World.grownBy_alloc _ _ _) (World.grownBy_alloc _ _ _)) (World.grownBy_alloc _ _ _), by go_simp, ?_, ?_⟩
    · rw [Below.heap_alloc _ _ _ (by simp)]
      have q := heap_alloc_new (w.alloc (.cells #[.string nm, .int .i64 sp, .int .i64 st, .slice (some ⟨b, off, none⟩) ss.length sc, .slice lo ls.length lc, .slice to_ ts.length tc] 42)) (.cells #[.int .i64 0, .int .i64 0, .int .i64 0, .int .i64 0, .int .i64 0, .int .i64 0, .int .i64 0, .int .i64 0, .int .i64 0, .int .i64 0] 44)
      simpa using q
    · have q := heap_alloc_new ((w.alloc (.cells #[.string nm, .int .i64 sp, .int .i64 st, .slice (some ⟨b, off, none⟩) ss.length sc, .slice lo ls.length lc, .slice to_ ts.length tc] 42)).alloc (.cells #[.int .i64 0, .int .i64 0, .int .i64 0, .int .i64 0, .int .i64 0, .int .i64 0, .int .i64 0, .int .i64 0, .int .i64 0, .int .i64 0] 44)) (.cells #[.int .i64 f, .int .i64 t, .int .i64 0, .int .i64 0, .int .i64 0, .int .i64 0, .int .i64 0, .int .i64 0, .int .i64 0, .int .i64 0] 44)
      simpa using q
  clear hs hi
  go_enter Try.func97, Try.ntmps97
  go_wp2_with fail
  go_loopw [8] (fun iv wr => ∃ (k m : Nat), Hid (m = k + 1) ∧ iv = .int .i64 m ∧ Hid (k < ss.length) ∧ Hid (PoS w wr (.slice (some ⟨b, off, none⟩) ss.length sc) f t (prtN ss f t k)))
    (fun iv _ => ss.length - (intOf iv).toNat)
  case atStart => exact ⟨0, 1, rfl, rfl, hn, HP0.out⟩
  case round =>
    obtain ⟨k, m, hmk, rfl, hk, hps⟩ := hrel
    have a3 := hps.out.a3
    by_cases hlt : m < ss.length
    · have em : (m : Int) - 1 = (k : Int) := by have := hmk.out; omega
      have rk : IntKind.i64.wrap (k : Int) = (k : Int) := IntWalk.i64_in _ (by have := hmk.out; omega)
      have hkl : k < ss.length := by have := hmk.out; omega
      have hkl2 : (k : Int) < (ss.length : Int) := by omega
      have hk1 : k + 1 < ss.length := by have := hmk.out; omega
      have HK1 := Lib.hid hk1
      obtain ⟨p0, p1, p2, p3, p4, p5, p6⟩ := (HS.out.grown hps.out.g).cells _ rfl k hkl
      obtain ⟨q0, q1, q2, q3, q4, q5, q6⟩ := (HS.out.grown hps.out.g).cells _ rfl m hlt
      rw [← smpD_at hkl] at p0 p1 p2 p3 p4 p5 p6
      rw [← smpD_at hlt] at q0 q1 q2 q3 q4 q5 q6
      simp only at p0 p1 p2 p3 p4 p5 p6 q0 q1 q2 q3 q4 q5 q6
      have hst : StepIn (smpD ss k) (smpD ss m) := by rw [hmk.out]; exact HI.out.step k hk1
      have hgo := fun F E => prt_go HI.out hft hk1 (F := F) (E := E)
      have hstay := prt_stay HI.out hft hk1
      have hbd := prt_bd HI.out hft hkl
      have hbd2 := prt_bd HI.out hft hk1
      have hv1 := val_le HI.out hk1 1
      have hv2 := val_le HI.out hk1 2
      have hv3 := val_le HI.out hk1 3
      rw [← hmk.out] at hgo hstay hbd2 hv1 hv2 hv3
      have HST := Lib.hid hst; have HGO := Lib.hid hgo; have HSTAY := Lib.hid hstay; have HBD := Lib.hid hbd; have HBD2 := Lib.hid hbd2
      have HV := Lib.hid (And.intro hv1 (And.intro hv2 hv3))
      clear hst hgo hstay hbd hbd2 hk1 hv1 hv2 hv3
      generalize hxn : prtN ss f t m = xn at *
      have HXN := Lib.hid hxn
      clear hxn
      generalize prtN ss f t k = x0 at *
      generalize smpD ss k = P at *
      generalize smpD ss m = Q at *
      obtain ⟨pt, px, py, pz, pp, pq, ps⟩ := P
      obtain ⟨qt, qx, qy, qz, qp, qq, qs⟩ := Q
      simp only at p0 p1 p2 p3 p4 p5 p6 q0 q1 q2 q3 q4 q5 q6
      have ht0 := HST.out.t.p0; have ht1 := HST.out.t.pq; have ht2 := HST.out.t.q1
      simp only at ht0 ht1 ht2
      have hltA : w.heap.size < wr.heap.size := by have := (Array.getElem?_eq_some_iff.1 hps.out.x).1; omega
      have hltB : b < wr.heap.size := lt_of_cell p0
      go_upto_region 5 with (fail)
      go_cut [9] (fun s9 wx => ∃ B, s9 = .pointer (some ⟨B, 0, none⟩) ∧ wr.grownBy wx none ∧ wr.heap.size ≤ B ∧ wx.heap[B]? = some (.cells #[.int .i64 pt, .int .i64 px, .int .i64 py, .int .i64 pz, .int .i64 pp, .int .i64 pq, .int .i64 ps, .int .i64 qt, .int .i64 qx, .int .i64 qy, .int .i64 qz, .int .i64 qp, .int .i64 qq, .int .i64 qs] 188 (0, 0)))
      case first =>
        show (regOf 5 Try.f97).wp _ _ _ _
        refine part_reg5 _ _ _ _ _ _ _ _ _ _ _ _ _ _ _ _ _ _ _ _ _ _ _ _ _ _ _ _ _ _ _ _ _ _ _ _ _ _ _ _ _ _ _ _ _ _ _ _ _ _ _ _ _ _ _ _ _ _ _ _ _ _ _ _ _ _ _ _ _ _ _ _ _ _ _ _ _ _ _ _ _ _ _ _ _ _ _ _ _ _ _ _ _ _ _ _ _ _ w wr b off sc k m ss hlen em hkl hkl2 hlt rk pt px py pz pp pq ps qt qx qy qz qp qq qs hltA hltB a3 p0 p1 p2 p3 p4 p5 p6 q0 q1 q2 q3 q4 q5 q6 (fun x0 x1 x2 x3 x4 x5 x6 x7 x8 x9 x10 x11 B wx h1 h2 h3 => ?_)
        go_wp2_with fail
        go_meet
        exact ⟨B, rfl, h1, h2, h3⟩
      case rest =>
        obtain ⟨B, rfl, hgB, hBs, hB⟩ := hcut
        have HBS := Lib.hid hBs
        have HBW := Lib.hid hps.out
        have HPS : Hid (PoS w wc (.slice (some ⟨b, off, none⟩) ss.length sc) f t x0) := hps.out.grown hgB
        have HB := Lib.hid hB
        have c0 : wc.cell? ⟨B, 0, none⟩ = some (.int .i64 pt) := by simp [World.cell?, hB]
        have c7 : wc.cell? ⟨B, 7, none⟩ = some (.int .i64 qt) := by simp [World.cell?, hB]
        clear hB hgB hBs p0 p1 p2 p3 p4 p5 p6 q0 q1 q2 q3 q4 q5 q6 a3
        go_upto_region 6 with (fail)
        go_cut [10, 11] (fun s10 s11 wx => s10 = .int .i64 (max f pt - pt) ∧ s11 = .int .i64 (min t qt - pt) ∧ wc.grownBy wx none)
        case first =>
          go_region
          all_goals
            go_wp2_with fail
            all_goals
              go_meet
              refine ⟨?_, ?_, grown_drewN _ _ 1⟩
              · first | rfl | (congr 1; omega)
              · first | rfl | (congr 1; omega)
        case rest =>
          obtain ⟨rfl, rfl, hgc⟩ := hcut
          replace HPS : Hid (PoS w wc (.slice (some ⟨b, off, none⟩) ss.length sc) f t x0) := HPS.out.grown hgc
          replace HB := Lib.hid ((hgc.block B (Array.getElem?_eq_some_iff.1 HB.out).1 (by simp)).trans HB.out)
          clear hgc c0 c7
          obtain ⟨F, hF⟩ : ∃ F, max f pt - pt = F := ⟨_, rfl⟩
          obtain ⟨E, hE⟩ : ∃ E, min t qt - pt = E := ⟨_, rfl⟩
          have hFb : 0 ≤ F := by omega
          have hEb : E ≤ 1000000 := by omega
          rw [hF, hE]
          by_cases hc : F < E
          · obtain ⟨A0, hA0⟩ : ∃ A, amtE ⟨pt, px, py, pz, pp, pq, ps⟩ ⟨qt, qx, qy, qz, qp, qq, qs⟩ 4 = A := ⟨_, rfl⟩
            obtain ⟨A1, hA1⟩ : ∃ A, amtE ⟨pt, px, py, pz, pp, pq, ps⟩ ⟨qt, qx, qy, qz, qp, qq, qs⟩ 5 = A := ⟨_, rfl⟩
            have hb0 := amtE_bd HST.out 4; have hb1 := amtE_bd HST.out 5
            rw [hA0] at hb0; rw [hA1] at hb1
            obtain ⟨v1, hv1⟩ : ∃ A, valE ⟨pt, px, py, pz, pp, pq, ps⟩ ⟨qt, qx, qy, qz, qp, qq, qs⟩ 1 = A := ⟨_, rfl⟩
            obtain ⟨v2, hv2⟩ : ∃ A, valE ⟨pt, px, py, pz, pp, pq, ps⟩ ⟨qt, qx, qy, qz, qp, qq, qs⟩ 2 = A := ⟨_, rfl⟩
            obtain ⟨v3, hv3⟩ : ∃ A, valE ⟨pt, px, py, pz, pp, pq, ps⟩ ⟨qt, qx, qy, qz, qp, qq, qs⟩ 3 = A := ⟨_, rfl⟩
            obtain ⟨u0, hu0⟩ : ∃ A, upto A0 (qt - pt) E - upto A0 (qt - pt) F = A := ⟨_, rfl⟩
            obtain ⟨u1, hu1⟩ : ∃ A, upto A1 (qt - pt) E - upto A1 (qt - pt) F = A := ⟨_, rfl⟩
            obtain ⟨vb1, vb2, vb3⟩ := HV.out
            rw [hv1] at vb1; rw [hv2] at vb2; rw [hv3] at vb3
            have hxn := HGO.out F E hF hE hc
            rw [hA0, hA1, hv1, hv2, hv3] at hxn
            obtain ⟨y0, y1, y2, y3, y4, y5, y6, y7⟩ := x0
            simp only at hxn
            rw [hu0, hu1] at hxn
            have hb := HBD.out
            have hb2 := HBD2.out
            rw [hxn] at hb2
            have b0 := hb.w0; have b1 := hb.w1; have b2 := hb.c0; have b3 := hb.c1; have b4 := hb.p0; have b5 := hb.p1; have b6 := hb.q0; have b7 := hb.q1; have b8 := hb.s0; have b9 := hb.s1; have b10 := hb.pk0; have b11 := hb.pk1; have b12 := hb.wk0; have b13 := hb.wk1; have b14 := hb.sk0; have b15 := hb.sk1
            have d0 := hb2.w0; have d1 := hb2.w1; have d2 := hb2.c0; have d3 := hb2.c1
            simp only at b0 b1 b2 b3 b4 b5 b6 b7 b8 b9 b10 b11 b12 b13 b14 b15 d0 d1 d2 d3
            have w0' : IntKind.i64.wrap (y0 + u0) = y0 + u0 := IntWalk.i64_in _ (by omega)
            have w1' : IntKind.i64.wrap (y1 + u1) = y1 + u1 := IntWalk.i64_in _ (by omega)
            have hF0 : 0 ≤ F := hFb
            have hF1 : F ≤ 1000000 := by omega
            have hE0 : 0 ≤ E := by omega
            have HAM0 := Lib.hid hA0; have HAM1 := Lib.hid hA1; have HV1 := Lib.hid hv1; have HV2 := Lib.hid hv2; have HV3 := Lib.hid hv3
            have HSH0 : Hid (upto A0 (qt - pt) E - upto A0 (qt - pt) F = u0) := hu0
            have HSH1 : Hid (upto A1 (qt - pt) E - upto A1 (qt - pt) F = u1) := hu1
            have HXF := Lib.hid hxn
            have hA0b := hb0; have hA1b := hb1
            have hBX : Hid (w.heap.size + 1 + 1 < B) := by show _ < _; have := (Array.getElem?_eq_some_iff.1 HBW.out.x).1; have := HBS.out; omega
            clear hA0 hA1 hv1 hv2 hv3 hu0 hu1 hxn hb hb2 hF hE HGO HSTAY HBD HBD2 hb0 hb1
            go_upto_region 8 with (fail)
            go_cut [] (fun wx => PoS w wx (.slice (some ⟨b, off, none⟩) ss.length sc) f t ⟨y0 + u0, y1, y2, y3, y4, y5, y6, y7⟩ ∧ wx.heap[B]? = some (.cells #[.int .i64 pt, .int .i64 px, .int .i64 py, .int .i64 pz, .int .i64 pp, .int .i64 pq, .int .i64 ps, .int .i64 qt, .int .i64 qx, .int .i64 qy, .int .i64 qz, .int .i64 qp, .int .i64 qq, .int .i64 qs] 188 (0, 0)))
            case first =>
              show (regOf 8 Try.f97).wp _ _ _ _
              refine part_reg8 _ _ _ _ _ _ _ _ _ _ _ _ _ _ _ _ _ _ _ _ _ _ _ _ _ _ _ _ _ _ _ _ _ _ _ _ _ _ _ _ _ _ _ _ _ _ _ _ _ _ _ _ _ _ _ _ _ _ _ _ _ _ _ _ _ _ _ _ _ _ _ _ _ _ _ _ _ _ _ _ _ _ _ _ _ _ _ _ _ _ _ _ _ _ _ _ w wc _ B (w.heap.size + 1 + 1) (Lib.hid rfl) F E f t pt px py pz pp pq ps qt qx qy qz qp qq qs y0 y1 y2 y3 y4 y5 y6 y7 A0 u0 HST HAM0 HSH0 hA0b.1 hA0b.2 hF0 hF1 hE0 hEb w0' HPS HB hBX (fun x0 x1 x2 x3 x4 x5 x6 x7 x8 x9 wx h1 h2 => ?_)
              go_wp2_with fail
              go_meet
              exact ⟨h1, h2⟩
            case rest =>
              obtain ⟨hps1, hB1⟩ := hcut
              replace HPS := Lib.hid hps1
              replace HB := Lib.hid hB1
              clear hps1 hB1
              go_upto_region 9 with (fail)
              go_cut [] (fun wx => PoS w wx (.slice (some ⟨b, off, none⟩) ss.length sc) f t ⟨y0 + u0, y1 + u1, y2, y3, y4, y5, y6, y7⟩ ∧ wx.heap[B]? = some (.cells #[.int .i64 pt, .int .i64 px, .int .i64 py, .int .i64 pz, .int .i64 pp, .int .i64 pq, .int .i64 ps, .int .i64 qt, .int .i64 qx, .int .i64 qy, .int .i64 qz, .int .i64 qp, .int .i64 qq, .int .i64 qs] 188 (0, 0)))
              case first =>
                show (regOf 9 Try.f97).wp _ _ _ _
                refine part_reg9 _ _ _ _ _ _ _ _ _ _ _ _ _ _ _ _ _ _ _ _ _ _ _ _ _ _ _ _ _ _ _ _ _ _ _ _ _ _ _ _ _ _ _ _ _ _ _ _ _ _ _ _ _ _ _ _ _ _ _ _ _ _ _ _ _ _ _ _ _ _ _ _ _ _ _ _ _ _ _ _ _ _ _ _ _ _ _ _ _ _ _ _ _ _ _ _ w wc _ B (w.heap.size + 1 + 1) (Lib.hid rfl) F E f t pt px py pz pp pq ps qt qx qy qz qp qq qs (y0 + u0) y1 y2 y3 y4 y5 y6 y7 A1 u1 HST HAM1 HSH1 hA1b.1 hA1b.2 hF0 hF1 hE0 hEb w1' HPS HB hBX (fun x0 x1 x2 x3 x4 x5 x6 x7 x8 x9 wx h1 h2 => ?_)
                go_wp2_with fail
                go_meet
                exact ⟨h1, h2⟩
              case rest =>
                obtain ⟨hps1, hB1⟩ := hcut
                replace HPS := Lib.hid hps1
                replace HB := Lib.hid hB1
                clear hps1 hB1 w0' w1'
                go_upto_region 10 with (fail)
                go_cut [] (fun wx => PoS w wx (.slice (some ⟨b, off, none⟩) ss.length sc) f t ⟨y0 + u0, y1 + u1, addS y2 v1 (E - F), y3, y4, addK y5 v1 (E - F), y6, y7⟩ ∧ wx.heap[B]? = some (.cells #[.int .i64 pt, .int .i64 px, .int .i64 py, .int .i64 pz, .int .i64 pp, .int .i64 pq, .int .i64 ps, .int .i64 qt, .int .i64 qx, .int .i64 qy, .int .i64 qz, .int .i64 qp, .int .i64 qq, .int .i64 qs] 188 (0, 0)))
                case first =>
                  show (regOf 10 Try.f97).wp _ _ _ _
                  refine part_reg10 _ _ _ _ _ _ _ _ _ _ _ _ _ _ _ _ _ _ _ _ _ _ _ _ _ _ _ _ _ _ _ _ _ _ _ _ _ _ _ _ _ _ _ _ _ _ _ _ _ _ _ _ _ _ _ _ _ _ _ _ _ _ _ _ _ _ _ _ _ _ _ _ _ _ _ _ _ _ _ _ _ _ _ _ _ _ _ _ _ _ _ _ _ _ _ _ w wc _ B (w.heap.size + 1 + 1) (Lib.hid rfl) F E f t pt px py pz pp pq ps qt qx qy qz qp qq qs (y0 + u0) (y1 + u1) y2 y3 y4 y5 y6 y7 v1 HST HV1 (by omega) hc (by omega) (by omega) (by omega) (by omega) hF0 hF1 hE0 hEb HPS HB hBX (fun x0 x1 x2 x3 x4 x5 x6 x7 wx h1 h2 => ?_)
                  go_wp2_with fail
                  go_meet
                  exact ⟨h1, h2⟩
                case rest =>
                  obtain ⟨hps1, hB1⟩ := hcut
                  replace HPS := Lib.hid hps1
                  replace HB := Lib.hid hB1
                  clear hps1 hB1
                  go_upto_region 11 with (fail)
                  go_cut [] (fun wx => PoS w wx (.slice (some ⟨b, off, none⟩) ss.length sc) f t ⟨y0 + u0, y1 + u1, addS y2 v1 (E - F), addS y3 v2 (E - F), y4, addK y5 v1 (E - F), addK y6 v2 (E - F), y7⟩ ∧ wx.heap[B]? = some (.cells #[.int .i64 pt, .int .i64 px, .int .i64 py, .int .i64 pz, .int .i64 pp, .int .i64 pq, .int .i64 ps, .int .i64 qt, .int .i64 qx, .int .i64 qy, .int .i64 qz, .int .i64 qp, .int .i64 qq, .int .i64 qs] 188 (0, 0)))
                  case first =>
                    show (regOf 11 Try.f97).wp _ _ _ _
                    refine part_reg11 _ _ _ _ _ _ _ _ _ _ _ _ _ _ _ _ _ _ _ _ _ _ _ _ _ _ _ _ _ _ _ _ _ _ _ _ _ _ _ _ _ _ _ _ _ _ _ _ _ _ _ _ _ _ _ _ _ _ _ _ _ _ _ _ _ _ _ _ _ _ _ _ _ _ _ _ _ _ _ _ _ _ _ _ _ _ _ _ _ _ _ _ _ _ _ _ w wc _ B (w.heap.size + 1 + 1) (Lib.hid rfl) F E f t pt px py pz pp pq ps qt qx qy qz qp qq qs (y0 + u0) (y1 + u1) (addS y2 v1 (E - F)) y3 y4 (addK y5 v1 (E - F)) y6 y7 v2 HST HV2 (by omega) hc (by omega) (by omega) (by omega) (by omega) hF0 hF1 hE0 hEb HPS HB hBX (fun x0 x1 x2 x3 x4 x5 x6 x7 wx h1 h2 => ?_)
                    go_wp2_with fail
                    go_meet
                    exact ⟨h1, h2⟩
                  case rest =>
                    obtain ⟨hps1, hB1⟩ := hcut
                    replace HPS := Lib.hid hps1
                    replace HB := Lib.hid hB1
                    clear hps1 hB1
                    have c0 : wc.cell? ⟨B, 0, none⟩ = some (.int .i64 pt) := by have := HB.out; simp [World.cell?, this]
                    have c1 : wc.cell? ⟨B, 1, none⟩ = some (.int .i64 px) := by have := HB.out; simp [World.cell?, this]
                    have c2 : wc.cell? ⟨B, 2, none⟩ = some (.int .i64 py) := by have := HB.out; simp [World.cell?, this]
                    have c3 : wc.cell? ⟨B, 3, none⟩ = some (.int .i64 pz) := by have := HB.out; simp [World.cell?, this]
                    have c4 : wc.cell? ⟨B, 4, none⟩ = some (.int .i64 pp) := by have := HB.out; simp [World.cell?, this]
                    have c5 : wc.cell? ⟨B, 5, none⟩ = some (.int .i64 pq) := by have := HB.out; simp [World.cell?, this]
                    have c6 : wc.cell? ⟨B, 6, none⟩ = some (.int .i64 ps) := by have := HB.out; simp [World.cell?, this]
                    have c7 : wc.cell? ⟨B, 7, none⟩ = some (.int .i64 qt) := by have := HB.out; simp [World.cell?, this]
                    have c8 : wc.cell? ⟨B, 8, none⟩ = some (.int .i64 qx) := by have := HB.out; simp [World.cell?, this]
                    have c9 : wc.cell? ⟨B, 9, none⟩ = some (.int .i64 qy) := by have := HB.out; simp [World.cell?, this]
                    have c10 : wc.cell? ⟨B, 10, none⟩ = some (.int .i64 qz) := by have := HB.out; simp [World.cell?, this]
                    have c11 : wc.cell? ⟨B, 11, none⟩ = some (.int .i64 qp) := by have := HB.out; simp [World.cell?, this]
                    have c12 : wc.cell? ⟨B, 12, none⟩ = some (.int .i64 qq) := by have := HB.out; simp [World.cell?, this]
                    have c13 : wc.cell? ⟨B, 13, none⟩ = some (.int .i64 qs) := by have := HB.out; simp [World.cell?, this]
                    go_wp2_with fail
                    refine (value_is ⟨pt, px, py, pz, pp, pq, ps⟩ ⟨qt, qx, qy, qz, qp, qq, qs⟩ HST.out.t 3 _ HV3).mono ?_; rintro e w1 ⟨rfl, hg1⟩
                    replace HPS := Lib.hid (HPS.out.grown hg1)
                    replace HB := Lib.hid ((hg1.block B (Array.getElem?_eq_some_iff.1 HB.out).1 (by simp)).trans HB.out)
                    have hx1 := HPS.out.x
                    have ci : w1.cell? ⟨w.heap.size + 1 + 1, 6, none⟩ = some (.int .i64 y4) := by simp [World.cell?, hx1]
                    have cj : w1.cell? ⟨w.heap.size + 1 + 1, 9, none⟩ = some (.int .i64 y7) := by simp [World.cell?, hx1]
                    have fi : w1.frozen? ⟨w.heap.size + 1 + 1, 6, none⟩ = false := by simp [World.frozen?, hx1]
                    have fj : w1.frozen? ⟨w.heap.size + 1 + 1, 9, none⟩ = false := by simp [World.frozen?, hx1]
                    have CI := Lib.hid ci; have CJ := Lib.hid cj; have FI := Lib.hid fi; have FJ := Lib.hid fj
                    clear c0 c1 c2 c3 c4 c5 c6 c7 c8 c9 c10 c11 c12 c13 hg1 hx1 ci cj fi fj
                    go_wp2_with fail
                    refine (addKnown_is (w.heap.size + 1 + 1) 6 9 (by omega) y4 y7 v3 (E - F) (by omega) (by omega) (by omega) (by omega) (by omega) (by omega) (by omega) w1 CI.out CJ.out FI.out FJ.out).mono ?_; rintro e w2 ⟨rfl, hw2⟩
                    replace HPS : Hid (PoS w w2 (.slice (some ⟨b, off, none⟩) ss.length sc) f t ⟨y0 + u0, y1 + u1, addS y2 v1 (E - F), addS y3 v2 (E - F), addS y4 v3 (E - F), addK y5 v1 (E - F), addK y6 v2 (E - F), addK y7 v3 (E - F)⟩) := by
                      show PoS _ _ _ _ _ _
                      rw [hw2]
                      unfold addS addK
                      by_cases hneg : v3 < 0
                      · rw [if_pos hneg, if_pos hneg, if_pos hneg]; exact HPS.out
                      · rw [if_neg hneg, if_neg hneg, if_neg hneg]; exact (HPS.out.setc (y := ⟨y0 + u0, y1 + u1, addS y2 v1 (E - F), addS y3 v2 (E - F), y4 + v3 * (E - F), addK y5 v1 (E - F), addK y6 v2 (E - F), y7⟩) 6 _ rfl).setc 9 _ rfl
                    replace HB : Hid (w2.heap[B]? = some (.cells #[.int .i64 pt, .int .i64 px, .int .i64 py, .int .i64 pz, .int .i64 pp, .int .i64 pq, .int .i64 ps, .int .i64 qt, .int .i64 qx, .int .i64 qy, .int .i64 qz, .int .i64 qp, .int .i64 qq, .int .i64 qs] 188 (0, 0))) := by
                      show _ = _
                      rw [hw2]
                      by_cases hneg : v3 < 0
                      · rw [if_pos hneg]; exact HB.out
                      · rw [if_neg hneg, Below.heap_setCell _ _ _ _ (by show B ≠ w.heap.size + 1 + 1; have := hBX.out; omega), Below.heap_setCell _ _ _ _ (by show B ≠ w.heap.size + 1 + 1; have := hBX.out; omega)]; exact HB.out
                    clear hw2 CI CJ FI FJ
                    have HPN : Hid (PoS w w2 (.slice (some ⟨b, off, none⟩) ss.length sc) f t xn) := by show PoS _ _ _ _ _ _; rw [HXF.out]; exact HPS.out
                    go_wp2_with fail
                    go_roundw
                    case rel => exact ⟨m, m + 1, rfl, by go_num, hlt, by rw [HXN.out]; exact HPN.out⟩
                    case measure => simp [intOf]; omega
          · have hx := HSTAY.out (by show ¬ max f pt - pt < min t qt - pt; rw [hF, hE]; exact hc)
            have HPN : Hid (PoS w wc (.slice (some ⟨b, off, none⟩) ss.length sc) f t xn) := by rw [hx]; exact HPS.out
            clear hx hF hE HGO HSTAY
            go_wp2_with fail
            go_roundw
            case rel => exact ⟨m, m + 1, rfl, by go_num, hlt, by rw [HXN.out]; exact HPN.out⟩
            case measure => simp [intOf]; omega
    · have hke : k = ss.length - 1 := by have := hmk.out; have := hk.out; omega
      have HX : Hid (PoS w wr (.slice (some ⟨b, off, none⟩) ss.length sc) f t x) := by rw [← hx.out, ← hke]; exact hps.out
      obtain ⟨y0, y1, y2, y3, y4, y5, y6, y7⟩ := x
      have hxx := HX.out.x
      have hrr := HX.out.r
      have x0 : wr.cell? ⟨w.heap.size + 1 + 1, 0, none⟩ = some (.int .i64 f) := by simp [World.cell?, hxx]
      have x1 : wr.cell? ⟨w.heap.size + 1 + 1, 1, none⟩ = some (.int .i64 t) := by simp [World.cell?, hxx]
      have x2 : wr.cell? ⟨w.heap.size + 1 + 1, 2, none⟩ = some (.int .i64 y0) := by simp [World.cell?, hxx]
      have x3 : wr.cell? ⟨w.heap.size + 1 + 1, 3, none⟩ = some (.int .i64 y1) := by simp [World.cell?, hxx]
      have x4 : wr.cell? ⟨w.heap.size + 1 + 1, 4, none⟩ = some (.int .i64 y2) := by simp [World.cell?, hxx]
      have x5 : wr.cell? ⟨w.heap.size + 1 + 1, 5, none⟩ = some (.int .i64 y3) := by simp [World.cell?, hxx]
      have x6 : wr.cell? ⟨w.heap.size + 1 + 1, 6, none⟩ = some (.int .i64 y4) := by simp [World.cell?, hxx]
      have x7 : wr.cell? ⟨w.heap.size + 1 + 1, 7, none⟩ = some (.int .i64 y5) := by simp [World.cell?, hxx]
      have x8 : wr.cell? ⟨w.heap.size + 1 + 1, 8, none⟩ = some (.int .i64 y6) := by simp [World.cell?, hxx]
      have x9 : wr.cell? ⟨w.heap.size + 1 + 1, 9, none⟩ = some (.int .i64 y7) := by simp [World.cell?, hxx]
      have r0 : wr.cell? ⟨w.heap.size + 1, 0, none⟩ = some (.int .i64 0) := by simp [World.cell?, hrr]
      have r1 : wr.cell? ⟨w.heap.size + 1, 1, none⟩ = some (.int .i64 0) := by simp [World.cell?, hrr]
      have r2 : wr.cell? ⟨w.heap.size + 1, 2, none⟩ = some (.int .i64 0) := by simp [World.cell?, hrr]
      have r3 : wr.cell? ⟨w.heap.size + 1, 3, none⟩ = some (.int .i64 0) := by simp [World.cell?, hrr]
      have r4 : wr.cell? ⟨w.heap.size + 1, 4, none⟩ = some (.int .i64 0) := by simp [World.cell?, hrr]
      have r5 : wr.cell? ⟨w.heap.size + 1, 5, none⟩ = some (.int .i64 0) := by simp [World.cell?, hrr]
      have r6 : wr.cell? ⟨w.heap.size + 1, 6, none⟩ = some (.int .i64 0) := by simp [World.cell?, hrr]
      have r7 : wr.cell? ⟨w.heap.size + 1, 7, none⟩ = some (.int .i64 0) := by simp [World.cell?, hrr]
      have r8 : wr.cell? ⟨w.heap.size + 1, 8, none⟩ = some (.int .i64 0) := by simp [World.cell?, hrr]
      have r9 : wr.cell? ⟨w.heap.size + 1, 9, none⟩ = some (.int .i64 0) := by simp [World.cell?, hrr]
      have e0 : wr.frozen? ⟨w.heap.size + 1, 0, none⟩ = false := by simp [World.frozen?, hrr]
      have e1 : wr.frozen? ⟨w.heap.size + 1, 1, none⟩ = false := by simp [World.frozen?, hrr]
      have e2 : wr.frozen? ⟨w.heap.size + 1, 2, none⟩ = false := by simp [World.frozen?, hrr]
      have e3 : wr.frozen? ⟨w.heap.size + 1, 3, none⟩ = false := by simp [World.frozen?, hrr]
      have e4 : wr.frozen? ⟨w.heap.size + 1, 4, none⟩ = false := by simp [World.frozen?, hrr]
      have e5 : wr.frozen? ⟨w.heap.size + 1, 5, none⟩ = false := by simp [World.frozen?, hrr]
      have e6 : wr.frozen? ⟨w.heap.size + 1, 6, none⟩ = false := by simp [World.frozen?, hrr]
      have e7 : wr.frozen? ⟨w.heap.size + 1, 7, none⟩ = false := by simp [World.frozen?, hrr]
      have e8 : wr.frozen? ⟨w.heap.size + 1, 8, none⟩ = false := by simp [World.frozen?, hrr]
      have e9 : wr.frozen? ⟨w.heap.size + 1, 9, none⟩ = false := by simp [World.frozen?, hrr]
      have HG := Lib.hid HX.out.g
      have HRR := Lib.hid hrr
      clear hxx hrr hps hke HX
      go_wp2_with fail
      obtain ⟨W1, hW1⟩ : ∃ W1, ((((((((((wr.setCell ⟨w.heap.size + 1, 0, none⟩ (.int .i64 f)).setCell ⟨w.heap.size + 1, 1, none⟩ (.int .i64 t)).setCell ⟨w.heap.size + 1, 2, none⟩ (.int .i64 y0)).setCell ⟨w.heap.size + 1, 3, none⟩ (.int .i64 y1)).setCell ⟨w.heap.size + 1, 4, none⟩ (.int .i64 y2)).setCell ⟨w.heap.size + 1, 5, none⟩ (.int .i64 y3)).setCell ⟨w.heap.size + 1, 6, none⟩ (.int .i64 y4)).setCell ⟨w.heap.size + 1, 7, none⟩ (.int .i64 y5)).setCell ⟨w.heap.size + 1, 8, none⟩ (.int .i64 y6)).setCell ⟨w.heap.size + 1, 9, none⟩ (.int .i64 y7)) = W1 := ⟨_, rfl⟩
      have hR1 : W1.heap[w.heap.size + 1]? = some (.cells #[.int .i64 f, .int .i64 t, .int .i64 y0, .int .i64 y1, .int .i64 y2, .int .i64 y3, .int .i64 y4, .int .i64 y5, .int .i64 y6, .int .i64 y7] 44 (0, 0)) := by
        rw [← hW1]; have := HRR.out; simp [World.setCell, Array.getElem?_modify, this]
      have hg1 : w.grownBy W1 none := by
        rw [← hW1]; exact grown_setR (grown_setR (grown_setR (grown_setR (grown_setR (grown_setR (grown_setR (grown_setR (grown_setR (grown_setR HG.out _ _) _ _) _ _) _ _) _ _) _ _) _ _) _ _) _ _) _ _
      have z0 : W1.cell? ⟨w.heap.size + 1, 0, none⟩ = some (.int .i64 f) := by simp [World.cell?, hR1]
      have z1 : W1.cell? ⟨w.heap.size + 1, 1, none⟩ = some (.int .i64 t) := by simp [World.cell?, hR1]
      have z2 : W1.cell? ⟨w.heap.size + 1, 2, none⟩ = some (.int .i64 y0) := by simp [World.cell?, hR1]
      have z3 : W1.cell? ⟨w.heap.size + 1, 3, none⟩ = some (.int .i64 y1) := by simp [World.cell?, hR1]
      have z4 : W1.cell? ⟨w.heap.size + 1, 4, none⟩ = some (.int .i64 y2) := by simp [World.cell?, hR1]
      have z5 : W1.cell? ⟨w.heap.size + 1, 5, none⟩ = some (.int .i64 y3) := by simp [World.cell?, hR1]
      have z6 : W1.cell? ⟨w.heap.size + 1, 6, none⟩ = some (.int .i64 y4) := by simp [World.cell?, hR1]
      have z7 : W1.cell? ⟨w.heap.size + 1, 7, none⟩ = some (.int .i64 y5) := by simp [World.cell?, hR1]
      have z8 : W1.cell? ⟨w.heap.size + 1, 8, none⟩ = some (.int .i64 y6) := by simp [World.cell?, hR1]
      have z9 : W1.cell? ⟨w.heap.size + 1, 9, none⟩ = some (.int .i64 y7) := by simp [World.cell?, hR1]
      rw [hW1]
      clear hW1
      refine bodyPost_ret (v := .agg #[.int .i64 f, .int .i64 t, .int .i64 y0, .int .i64 y1, .int .i64 y2, .int .i64 y3, .int .i64 y4, .int .i64 y5, .int .i64 y6, .int .i64 y7]) (by simp [results, Try.results97, go_sem, z0, z1, z2, z3, z4, z5, z6, z7, z8, z9]) rfl ⟨rfl, hg1⟩

end Go.Proofs.Ytmfnphknoclhfaa
