/- With a greater threshold Climb tells no more, and no line is worth more: the walk. -/
import Derived.Test.YtkifmjohcmjeeaaTTold
import Derived.Test.YtkifmjohcmjeeaaTLessP
import Derived.Test.YtkifmjohcmjeeaaEInts
import Derived.BigRegion
import Derived.Deep.CutBlock
import Derived.Deep.DeepCutAuto
namespace Go.Proofs.Ytkifmjohcmjeeaa
open Go.RowKit

set_option maxRecDepth 100000 in
set_option maxHeartbeats 3200000 in
theorem less_law (a : Act) (tl th : Int) (no : Option Addr) (nc : Nat) (line : List Int) (hln : (line.length : Int) ≤ 9223372036854775807) (w : World) (ha : ActAt w a) (hc : a.ss.length ≤ a.sc) (hn : IntsAt w no line) :
    Calls Try.prog 14 #[a.val, .int .i64 tl, .int .i64 th, .slice no line.length nc] w fun e w' => e = .returned (.bool true) ∧ w.grownBy w' none := by
  rcases hwx : climbE a tl with ⟨x, E⟩
  rcases hwy : climbE a th with ⟨y, F⟩
  have HWX := Lib.hid hwx; have HWY := Lib.hid hwy; have HA := Lib.hid ha; have HC := Lib.hid hc; have HN := Lib.hid hn
  clear hwx hwy ha hc hn
  obtain ⟨nm, sp, st, so, sc, ss, lo, lc, ls, to_, tc, ts⟩ := a
  obtain ⟨xu, xd, xt, xz⟩ := x
  obtain ⟨yu, yd, yt, yz⟩ := y
  simp only [Act.val]
  have GB : Hid (w.grownBy (w.alloc (.cells #[.string nm, .int .i64 sp, .int .i64 st, .slice so ss.length sc, .slice lo ls.length lc, .slice to_ ts.length tc] 55)) none) := World.grownBy_alloc _ _ _
  go_enter Try.func14, Try.ntmps14
  go_wp2_with fail
  refine (climb_any ⟨nm, sp, st, so, sc, ss, lo, lc, ls, to_, tc, ts⟩ tl _ (HA.out.grown GB.out) HC.out HWX).mono ?_; rintro x w1 ⟨rfl, hg1⟩
  have K := Lib.hid (grown_trans hg1 (World.grownBy_alloc w1 (.cells #[.int .i64 xu, .int .i64 xd, .int .i64 xt] 75) none))
  have X0 : Hid ((w1.alloc (.cells #[.int .i64 xu, .int .i64 xd, .int .i64 xt] 75)).heap[w1.heap.size]? = some (.cells #[.int .i64 xu, .int .i64 xd, .int .i64 xt] 75)) := heap_alloc_new w1 _
  clear hg1
  simp only
  have a0 : (w1.alloc (.cells #[.int .i64 xu, .int .i64 xd, .int .i64 xt] 75)).cell? ⟨w.heap.size, 0, none⟩ = some (.string nm) := grown_cell K.out (by go_simp)
  have a1 : (w1.alloc (.cells #[.int .i64 xu, .int .i64 xd, .int .i64 xt] 75)).cell? ⟨w.heap.size, 1, none⟩ = some (.int .i64 sp) := grown_cell K.out (by go_simp)
  have a2 : (w1.alloc (.cells #[.int .i64 xu, .int .i64 xd, .int .i64 xt] 75)).cell? ⟨w.heap.size, 2, none⟩ = some (.int .i64 st) := grown_cell K.out (by go_simp)
  have a3 : (w1.alloc (.cells #[.int .i64 xu, .int .i64 xd, .int .i64 xt] 75)).cell? ⟨w.heap.size, 3, none⟩ = some (.slice so ss.length sc) := grown_cell K.out (by go_simp)
  have a4 : (w1.alloc (.cells #[.int .i64 xu, .int .i64 xd, .int .i64 xt] 75)).cell? ⟨w.heap.size, 4, none⟩ = some (.slice lo ls.length lc) := grown_cell K.out (by go_simp)
  have a5 : (w1.alloc (.cells #[.int .i64 xu, .int .i64 xd, .int .i64 xt] 75)).cell? ⟨w.heap.size, 5, none⟩ = some (.slice to_ ts.length tc) := grown_cell K.out (by go_simp)
  go_wp2_with fail
  refine (climb_any ⟨nm, sp, st, so, sc, ss, lo, lc, ls, to_, tc, ts⟩ th _ (HA.out.grown (grown_trans GB.out K.out)) HC.out HWY).mono ?_; rintro x w2 ⟨rfl, hg2⟩
  replace K := Lib.hid (grown_trans (grown_trans K.out hg2) (World.grownBy_alloc w2 (.cells #[.int .i64 yu, .int .i64 yd, .int .i64 yt] 75) none))
  have X1 : Hid ((w2.alloc (.cells #[.int .i64 yu, .int .i64 yd, .int .i64 yt] 75)).heap[w1.heap.size]? = some (.cells #[.int .i64 xu, .int .i64 xd, .int .i64 xt] 75)) := by
    have h1 : w1.heap.size < (w1.alloc (.cells #[.int .i64 xu, .int .i64 xd, .int .i64 xt] 75)).heap.size := by simp
    exact (((grown_trans hg2 (World.grownBy_alloc w2 (.cells #[.int .i64 yu, .int .i64 yd, .int .i64 yt] 75) none)).block _ h1 (by simp))).trans X0.out
  clear a0 a1 a2 a3 a4 a5 hg2 X0
  simp only
  have X2 : Hid ((w2.alloc (.cells #[.int .i64 yu, .int .i64 yd, .int .i64 yt] 75)).heap[w2.heap.size]? = some (.cells #[.int .i64 yu, .int .i64 yd, .int .i64 yt] 75)) := heap_alloc_new w2 _
  have x0 : (w2.alloc (.cells #[.int .i64 yu, .int .i64 yd, .int .i64 yt] 75)).cell? ⟨w1.heap.size, 0, none⟩ = some (.int .i64 xu) := by have := X1.out; simp [World.cell?, this]
  have x1 : (w2.alloc (.cells #[.int .i64 yu, .int .i64 yd, .int .i64 yt] 75)).cell? ⟨w1.heap.size, 1, none⟩ = some (.int .i64 xd) := by have := X1.out; simp [World.cell?, this]
  have x2 : (w2.alloc (.cells #[.int .i64 yu, .int .i64 yd, .int .i64 yt] 75)).cell? ⟨w1.heap.size, 2, none⟩ = some (.int .i64 xt) := by have := X1.out; simp [World.cell?, this]
  have a3 : (w2.alloc (.cells #[.int .i64 yu, .int .i64 yd, .int .i64 yt] 75)).cell? ⟨w.heap.size, 3, none⟩ = some (.slice so ss.length sc) := grown_cell K.out (by go_simp)
  have HS : Hid (SmpsAt (w2.alloc (.cells #[.int .i64 yu, .int .i64 yd, .int .i64 yt] 75)) so ss) := (HA.out.grown (grown_trans GB.out K.out)).hs
  have HNI : Hid (IntsAt (w2.alloc (.cells #[.int .i64 yu, .int .i64 yd, .int .i64 yt] 75)) no line) := HN.out.grown (grown_trans GB.out K.out)
  by_cases hE : E = 0
  · by_cases hF : F = 0
    · subst hE; subst hF
      by_cases hle : th < tl
      · clear HS HNI
        go_wp2_with fail
        refine (told_any _).mono ?_; rintro x w3 ⟨rfl, hg3⟩
        replace K := Lib.hid (grown_trans K.out hg3)
        clear hg3
        go_wp2_with fail
        go_ret
        exact ⟨by first | rfl | simp, grown_trans GB.out K.out⟩
      · by_cases h2 : ss.length < 2
        · have hz0 : xu = 0 ∧ xd = 0 ∧ xt = 0 := by
            obtain ⟨_, _, _, f4, _, _⟩ := climb_facts HWX.out
            simp only at f4
            match ss, h2 with
            | [], _ => simp [climbL, Ln.first] at f4; omega
            | [q], _ => simp [climbL, climbS, Ln.first] at f4; omega
            | _ :: _ :: _, h => simp at h; omega
          obtain ⟨rfl, rfl, rfl⟩ := hz0
          have n8 : (ss.length : Int) < 2 := by omega
          clear HS HNI h2
          go_wp2_with fail
          refine (told_any _).mono ?_; rintro x w3 ⟨rfl, hg3⟩
          replace K := Lib.hid (grown_trans K.out hg3)
          clear hg3
          go_wp2_with fail
          go_ret
          exact ⟨by first | rfl | simp, grown_trans GB.out K.out⟩
        · have LO := less_ok HWX.out HWY.out (by omega) (by simp only; omega)
          have cf := climb_facts HWY.out
          simp only at LO cf
          obtain ⟨_, th0, th1, _, hlen, hzb⟩ := cf
          have HLO := Lib.hid LO
          have HZB := Lib.hid hzb
          have hss : ss ≠ [] := fun h => by rw [h] at h2; simp at h2
          obtain ⟨b, off, rfl⟩ : ∃ b off, so = some ⟨b, off, none⟩ := by
            have hn := HS.out
            cases so with
            | none => exact absurd (hn.nil rfl) hss
            | some p =>
              obtain ⟨b, off, spot⟩ := p
              have hsp := hn.spot _ rfl hss
              simp only at hsp
              subst hsp
              exact ⟨b, off, rfl⟩
          have HCZ : Hid (∀ k, k < ss.length → (w2.alloc (.cells #[.int .i64 yu, .int .i64 yd, .int .i64 yt] 75)).cell? ⟨b, off + k * 7 + 3, none⟩ = some (.int .i64 (smpD ss k).z)) := fun k hk => by
            have := (HS.out.cells _ rfl k hk).2.2.2.1
            rw [← smpD_at hk] at this
            exact this
          have ea : ((ss.length : Int) - 1).toNat = ss.length - 1 := by omega
          have pa : (0 : Int) ≤ (ss.length : Int) - 1 := by omega
          have pb : (1 : Int) ≤ (ss.length : Int) := by omega
          have ba : (ss.length : Int) - 1 < (ss.length : Int) := by omega
          have rra : IntKind.i64.wrap ((ss.length : Int) - 1) = (ss.length : Int) - 1 := IntWalk.i64_in _ (by omega)
          have pc : (0 : Int) < (ss.length : Int) := by omega
          have pd : 0 < ss.length := by omega
          have cm := HCZ.out (ss.length - 1) (by omega)
          have c0 := HCZ.out 0 (by omega)
          simp only [Nat.zero_mul, Nat.add_zero] at c0
          obtain ⟨z, hz⟩ : ∃ z : Nat → Int, (fun k => (smpD ss k).z) = z := ⟨_, rfl⟩
          have hzk : ∀ k, (smpD ss k).z = z k := fun k => by rw [← hz]
          rw [hzk] at cm c0
          rw [hz] at LO
          have HZK := Lib.hid hzk
          obtain ⟨l1, l2, l3, l4, l5, l6, l7, l8, l9, l10, l11, l12, lb⟩ := LO
          have HLB := Lib.hid lb
          have hz0 := hzb 0
          have hzm := hzb (ss.length - 1)
          rw [hzk] at hz0 hzm
          have e1 : (xu - xd != z (ss.length - 1) - z 0) = false := by rw [l3]; simp
          have e2 : (yu - yd != z (ss.length - 1) - z 0) = false := by rw [l4]; simp
          have f1 : ¬ xu < yu := by omega
          have f2 : ¬ xd < yd := by omega
          have H34 := Lib.hid (And.intro l3 l4)
          have HSS := Lib.hid hss
          clear lb hzb hz hzk HLO hss
          generalize hzme : z (ss.length - 1) = zm at *
          have HZM := Lib.hid hzme
          clear hzme
          have HZ0 : Hid (z 0 = z 0) := rfl
          obtain ⟨z0, hz00⟩ : ∃ q, z 0 = q := ⟨_, rfl⟩
          rw [hz00] at c0 hz0 e1 e2 l3 l4
          have HZ00 := Lib.hid hz00
          have hyu1 : yu ≤ 4000000000 := by omega
          have hyd1 : yd ≤ 4000000000 := by omega
          clear hz00 HZ0 l3 l4 l1 l2
          go_upto_region 8 with (fail)
          go_cut [14] (fun s14 wx => s14 = .int .i64 (zm - z0) ∧ (w2.alloc (.cells #[.int .i64 yu, .int .i64 yd, .int .i64 yt] 75)).grownBy wx none)
          case first => as_aux_lemma =>
            go_region
            all_goals
              go_wp2_with fail
              go_meet
              exact ⟨rfl, grown_drewN _ _ 1⟩
          case rest =>
            obtain ⟨rfl, hgc⟩ := hcut
            have HCZ2 : Hid (∀ k, k < ss.length → wc.cell? ⟨b, off + k * 7 + 3, none⟩ = some (.int .i64 (z k))) := fun k hk => by
              rw [← HZK.out]; exact grown_cell hgc (HCZ.out k hk)
            have y0 : wc.cell? ⟨w2.heap.size, 0, none⟩ = some (.int .i64 yu) := grown_cell hgc (by go_simp)
            have y1 : wc.cell? ⟨w2.heap.size, 1, none⟩ = some (.int .i64 yd) := grown_cell hgc (by go_simp)
            have y2 : wc.cell? ⟨w2.heap.size, 2, none⟩ = some (.int .i64 yt) := grown_cell hgc (by go_simp)
            replace x0 := grown_cell hgc x0
            replace x1 := grown_cell hgc x1
            replace x2 := grown_cell hgc x2
            replace a3 := grown_cell hgc a3
            replace cm := grown_cell hgc cm
            replace c0 := grown_cell hgc c0
            replace HNI : Hid (IntsAt wc no line) := HNI.out.grown hgc
            replace K := Lib.hid (grown_trans K.out hgc)
            clear hgc HCZ X1 X2 HS HN HA HWX HWY
            go_upto_region 11 with (fail)
            go_cut [15, 16] (fun s15 s16 wx => s15 = .int .i64 0 ∧ s16 = .int .i64 z0 ∧ wc.grownBy wx none)
            case first => as_aux_lemma =>
              go_region
              all_goals
                go_wp2_with fail
                go_meet
                exact ⟨rfl, rfl, grown_drewN _ _ 1⟩
            case rest =>
              obtain ⟨rfl, rfl, hgc⟩ := hcut
              have HCZ3 : Hid (∀ k, k < ss.length → wc.cell? ⟨b, off + k * 7 + 3, none⟩ = some (.int .i64 (z k))) := fun k hk => grown_cell hgc (HCZ2.out k hk)
              replace y0 := grown_cell hgc y0
              replace y1 := grown_cell hgc y1
              replace y2 := grown_cell hgc y2
              replace a3 := grown_cell hgc a3
              replace cm := grown_cell hgc cm
              replace HNI : Hid (IntsAt wc no line) := HNI.out.grown hgc
              replace K := Lib.hid (grown_trans K.out hgc)
              clear hgc HCZ2 x0 x1 x2 c0 e1 e2 f1 f2
              go_wp2_with fail
              have hpb := prod_bd th0 th1 l11 (by omega)
              obtain ⟨P, hP⟩ : ∃ P, th * yt = P := ⟨_, rfl⟩
              rw [hP] at hpb
              have rp : IntKind.i64.wrap (th * yt) = P := by rw [hP]; exact IntWalk.i64_in _ (by omega)
              have HB2 : Hid (∀ T k, LineTo z (ss.length - 1) T k → T - th * k ≤ yu + yd - P) := fun T k h => by rw [← hP]; exact HLB.out T k h
              have HP := Lib.hid hP
              have n2 : 1 < ss.length := by omega
              have HZB2 : Hid (∀ k, -100000 ≤ z k ∧ z k ≤ 100000) := fun k => by rw [← HZK.out]; exact HZB.out k
              obtain ⟨wb, hwb⟩ : ∃ wb, wb = wc := ⟨_, rfl⟩
              subst hwb
              clear hP HLB HZK HZB H34 HSS HC h2
              go_loopw [15, 16, 104] (fun sv lv iv wr => ∃ (j p : Nat) (T k S : Int), j ≤ line.length ∧ sv = .int .i64 S ∧ lv = .int .i64 (z p) ∧ iv = .int .i64 j ∧ S = T - th * leave p k ∧ Hid (LineTo z p T k) ∧ j ≤ p ∧ p + 1 < ss.length ∧ Hid ((j = 0 ∧ p = 0) ∨ ∃ i : Nat, j = i + 1 ∧ nthI line i = p) ∧ Hid (wb.grownBy wr none))
                (fun _ _ iv _ => line.length - (intOf iv).toNat)
              case atStart => exact ⟨0, 0, 0, 0, 0, Nat.zero_le _, rfl, by rw [HZ00.out], rfl, by simp [leave], .start, Nat.le_refl _, n2, .inl ⟨rfl, rfl⟩, World.grownBy.refl _ _⟩
              case round =>
                obtain ⟨j, p, T, k, S, hj, rfl, rfl, rfl, hS, hline, hjp, hpn, hprev, hwr⟩ := hrel
                have hlb := line_bd HZB2.out hline.out
                have hlk0 : 0 ≤ leave p k := by have := hlb.2.2.1; unfold leave; split <;> omega
                have hpp := prod_bd th0 th1 hlk0 (by omega)
                obtain ⟨Q, hQ⟩ : ∃ Q, th * leave p k = Q := ⟨_, rfl⟩
                rw [hQ] at hpp hS
                have hzp := HZB2.out p
                have hSb : -20000000000 ≤ S ∧ S ≤ 20000000000 := by omega
                have b3 := grown_cell hwr.out a3
                by_cases hlt : j < line.length
                · obtain ⟨lb, lof, hno, hc⟩ := HNI.out.at (by omega)
                  have cx := grown_cell hwr.out (hc j hlt)
                  have hq1 : ¬ nthI line j < 1 → ¬ (ss.length : Int) - 1 ≤ nthI line j → ∃ q : Nat, nthI line j = q ∧ 1 ≤ q ∧ q + 1 < ss.length := fun h1 h2 => ⟨(nthI line j).toNat, by omega, by omega, by omega⟩
                  subst hno
                  by_cases c1 : nthI line j < 1
                  · clear hq1 hc
                    generalize nthI line j = x at *
                    go_wp2_with fail
                    refine (told_any _).mono ?_; rintro x w3 ⟨rfl, hg3⟩
                    have K2 := Lib.hid (grown_trans (grown_trans K.out hwr.out) hg3)
                    clear hg3
                    go_wp2_with fail
                    go_ret
                    exact ⟨by first | rfl | simp, grown_trans GB.out K2.out⟩
                  by_cases c2 : (ss.length : Int) - 1 ≤ nthI line j
                  · clear hq1 hc
                    generalize nthI line j = x at *
                    go_wp2_with fail
                    refine (told_any _).mono ?_; rintro x w3 ⟨rfl, hg3⟩
                    have K2 := Lib.hid (grown_trans (grown_trans K.out hwr.out) hg3)
                    clear hg3
                    go_wp2_with fail
                    go_ret
                    exact ⟨by first | rfl | simp, grown_trans GB.out K2.out⟩
                  obtain ⟨q, hxq, q1, q2⟩ := hq1 c1 c2
                  have cxq := cx
                  rw [hxq] at cxq
                  have d1 : ¬ (q : Int) < 1 := by omega
                  have d2 : ¬ (ss.length : Int) - 1 ≤ (q : Int) := by omega
                  clear cx c1 c2
                  rcases hprev.out with ⟨hj0, hp0⟩ | ⟨i, rfl, hpi⟩
                  · have hpq : p < q := by omega
                    have e2 : decide (0 < (j : Int)) = false := by simp; omega
                    have e3 : decide (0 < j) = false := by simp; omega
                    clear hj0 hp0
                    have czq := grown_cell hwr.out (HCZ3.out q (by omega))
                    have hzq := HZB2.out q
                    have hnl : Hid (LineTo z q (T + farI (z p) (z q)) (leave p k)) := .go hline.out hpq
                    have hS2 : Hid (S + (max (z q - z p) (z p - z q) - th) = (T + farI (z p) (z q)) - th * leave q (leave p k)) := by
                      show _ = _
                      have e : leave q (leave p k) = leave p k + 1 := by unfold leave; rw [if_neg (by omega)]
                      rw [e, Int.mul_add, hQ, far_max]; omega
                    have HPR : Hid ((j + 1 = 0 ∧ q = 0) ∨ ∃ i' : Nat, j + 1 = i' + 1 ∧ nthI line i' = q) := .inr ⟨j, rfl, hxq⟩
                    clear hq1 hc hxq hpp hlb hQ hS
                    generalize z p = zp at *
                    generalize hzqe : z q = zq at *
                    have HZQ := Lib.hid hzqe
                    clear hzqe
                    go_upto_region 17 with (fail)
                    go_cut [15] (fun s15 wx => s15 = .int .i64 (S + (max (zq - zp) (zp - zq) - th)) ∧ wr.grownBy wx none)
                    case first => as_aux_lemma =>
                      go_region
                      all_goals
                        go_wp2_with fail
                        go_meet
                        exact ⟨rfl, grown_drewN _ _ 1⟩
                    case rest =>
                      obtain ⟨rfl, hgc⟩ := hcut
                      replace b3 := grown_cell hgc b3
                      replace czq := grown_cell hgc czq
                      have HWR := Lib.hid (grown_trans hwr.out hgc)
                      clear hgc hwr
                      go_wp2_with fail
                      go_roundw
                      case rel => exact ⟨j + 1, q, _, _, _, hlt, rfl, by rw [HZQ.out], by go_num, hS2.out, hnl.out, by omega, q2, HPR.out, HWR.out⟩
                      case measure => simp [intOf]; omega
                  · have ci := grown_cell hwr.out (hc i (by omega))
                    rw [hpi] at ci
                    have em : ((i + 1 : Nat) : Int) - 1 = (i : Int) := by omega
                    have rm : IntKind.i64.wrap (i : Int) = (i : Int) := IntWalk.i64_in _ (by omega)
                    have hm : (i : Int) < (line.length : Int) := by omega
                    have hm0 : (0 : Int) < ((i + 1 : Nat) : Int) := by omega
                    by_cases c3 : (q : Int) ≤ (p : Int)
                    · clear hq1 hc
                      go_wp2_with fail
                      refine (told_any _).mono ?_; rintro x w3 ⟨rfl, hg3⟩
                      have K2 := Lib.hid (grown_trans (grown_trans K.out hwr.out) hg3)
                      clear hg3
                      go_wp2_with fail
                      go_ret
                      exact ⟨by first | rfl | simp, grown_trans GB.out K2.out⟩
                    · have hpq : p < q := by omega
                      have czq := grown_cell hwr.out (HCZ3.out q (by omega))
                      have hzq := HZB2.out q
                      have hnl : Hid (LineTo z q (T + farI (z p) (z q)) (leave p k)) := .go hline.out hpq
                      have hS2 : Hid (S + (max (z q - z p) (z p - z q) - th) = (T + farI (z p) (z q)) - th * leave q (leave p k)) := by
                        show _ = _
                        have e : leave q (leave p k) = leave p k + 1 := by unfold leave; rw [if_neg (by omega)]
                        rw [e, Int.mul_add, hQ, far_max]; omega
                      have HPR : Hid ((i + 1 + 1 = 0 ∧ q = 0) ∨ ∃ i' : Nat, i + 1 + 1 = i' + 1 ∧ nthI line i' = q) := .inr ⟨i + 1, rfl, hxq⟩
                      clear hq1 hc hxq hpp hlb hQ hS
                      generalize z p = zp at *
                      generalize hzqe : z q = zq at *
                      have HZQ := Lib.hid hzqe
                      clear hzqe
                      go_upto_region 17 with (fail)
                      go_cut [15] (fun s15 wx => s15 = .int .i64 (S + (max (zq - zp) (zp - zq) - th)) ∧ wr.grownBy wx none)
                      case first => as_aux_lemma =>
                        go_region
                        all_goals
                          go_wp2_with fail
                          go_meet
                          exact ⟨rfl, grown_drewN _ _ 1⟩
                      case rest =>
                        obtain ⟨rfl, hgc⟩ := hcut
                        replace b3 := grown_cell hgc b3
                        replace czq := grown_cell hgc czq
                        have HWR := Lib.hid (grown_trans hwr.out hgc)
                        clear hgc hwr
                        go_wp2_with fail
                        go_roundw
                        case rel => exact ⟨i + 1 + 1, q, _, _, _, hlt, rfl, by rw [HZQ.out], by go_num, hS2.out, hnl.out, by omega, q2, HPR.out, HWR.out⟩
                        case measure => simp [intOf]; omega
                · have cm2 := grown_cell hwr.out cm
                  have hfin : S + max (zm - z p) (z p - zm) ≤ yu + yd - P := by
                    have h := HB2.out _ _ (LineTo.go (i := ss.length - 1) hline.out (by omega))
                    rw [hQ, HZM.out, ← far_max] at h
                    omega
                  have w0 := grown_cell hwr.out y0
                  have w1' := grown_cell hwr.out y1
                  have w2' := grown_cell hwr.out y2
                  clear hlb hQ hS hpp
                  generalize z p = zp at *
                  go_upto_region 20 with (fail)
                  go_cut [15] (fun s15 wx => s15 = .int .i64 (S + max (zm - zp) (zp - zm)) ∧ wr.grownBy wx none)
                  case first => as_aux_lemma =>
                    go_region
                    all_goals
                      go_wp2_with fail
                      go_meet
                      exact ⟨rfl, grown_drewN _ _ 1⟩
                  case rest =>
                    obtain ⟨rfl, hgc⟩ := hcut
                    replace w0 := grown_cell hgc w0
                    replace w1' := grown_cell hgc w1'
                    replace w2' := grown_cell hgc w2'
                    replace hwr := Lib.hid (grown_trans hwr.out hgc)
                    clear hgc
                    go_wp2_with fail
                    refine (told_any _).mono ?_; rintro x w3 ⟨rfl, hg3⟩
                    have K2 := Lib.hid (grown_trans (grown_trans K.out hwr.out) hg3)
                    clear hg3
                    go_wp2_with fail
                    go_ret
                    exact ⟨by first | rfl | simp, grown_trans GB.out K2.out⟩
    · have hne : (F != 0) = true := by simpa using hF
      subst hE
      clear HS HNI
      go_wp2_with fail
      refine (told_any _).mono ?_; rintro x w3 ⟨rfl, hg3⟩
      replace K := Lib.hid (grown_trans K.out hg3)
      clear hg3
      go_wp2_with fail
      go_ret
      exact ⟨by first | rfl | simp, grown_trans GB.out K.out⟩
  · have hne : (E != 0) = true := by simpa using hE
    clear HS HNI
    go_wp2_with fail
    refine (told_any _).mono ?_; rintro x w3 ⟨rfl, hg3⟩
    replace K := Lib.hid (grown_trans K.out hg3)
    clear hg3
    go_wp2_with fail
    go_ret
    exact ⟨by first | rfl | simp, grown_trans GB.out K.out⟩

end Go.Proofs.Ytkifmjohcmjeeaa
