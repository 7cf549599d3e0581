/- The contracts of the reference's less and checkBoth. -/
import Derived.Test.YtckelojdjmaliaaMSort
import Derived.Test.YtckelojdjmaliaaTRChk
namespace Go.Proofs.Ytckelojdjmaliaa
open Go.RowKit
set_option linter.unusedSimpArgs false
set_option linter.unusedVariables false

attribute [local go_sem] Oper.semAt_some

set_option maxRecDepth 100000 in
set_option maxHeartbeats 3200000 in
theorem rless_is (x y : Psg) (hx : PsgIn x) (hy : PsgIn y) (w : World) {r : Bool} (h : Hid (psgLt x y = r)) :
    Calls Try.prog 52 #[.agg #[.int .i64 x.part, .int .i64 x.whole], .agg #[.int .i64 y.part, .int .i64 y.whole]] w fun e w' => e = .returned (.bool r) ∧ w.grownBy w' none := by
  have hneg := cfP_neg hx hy
  obtain ⟨xg, xp, xw⟩ := x
  obtain ⟨yg, yp, yw⟩ := y
  obtain ⟨_, _, x0, x1, x2⟩ := hx
  obtain ⟨_, _, y0, y1, y2⟩ := hy
  simp only at x0 x1 x2 y0 y1 y2
  obtain ⟨a, ha⟩ : ∃ a : Nat, xp = a := ⟨xp.toNat, by omega⟩
  obtain ⟨b, hb⟩ : ∃ b : Nat, xw = b := ⟨xw.toNat, by omega⟩
  obtain ⟨c, hc⟩ : ∃ c : Nat, yp = c := ⟨yp.toNat, by omega⟩
  obtain ⟨d, hd⟩ : ∃ d : Nat, yw = d := ⟨yw.toNat, by omega⟩
  subst ha; subst hb; subst hc; subst hd
  unfold cfP at hneg
  rw [cmpP_neg, h.out] at hneg
  simp only [Int.toNat_natCast] at hneg
  have la : a < 18446744073709551616 := by omega
  have lb : b < 18446744073709551616 := by omega
  have lc : c < 18446744073709551616 := by omega
  have ld : d < 18446744073709551616 := by omega
  have wa : IntKind.u64.wrap (a : Int) = (a : Int) := by rw [IntKind.wrap_u64]; omega
  have wb : IntKind.u64.wrap (b : Int) = (b : Int) := by rw [IntKind.wrap_u64]; omega
  have wc : IntKind.u64.wrap (c : Int) = (c : Int) := by rw [IntKind.wrap_u64]; omega
  have wd : IntKind.u64.wrap (d : Int) = (d : Int) := by rw [IntKind.wrap_u64]; omega
  obtain ⟨h1, e1⟩ : ∃ h, a * d / 18446744073709551616 = h := ⟨_, rfl⟩
  obtain ⟨l1, e2⟩ : ∃ h, a * d % 18446744073709551616 = h := ⟨_, rfl⟩
  obtain ⟨h2, e3⟩ : ∃ h, c * b / 18446744073709551616 = h := ⟨_, rfl⟩
  obtain ⟨l2, e4⟩ : ∃ h, c * b % 18446744073709551616 = h := ⟨_, rfl⟩
  have hlt : r = true ↔ h1 < h2 ∨ (h1 = h2 ∧ l1 < l2) := by rw [← hneg]; omega
  have E1 := Lib.hid e1; have E2 := Lib.hid e2; have E3 := Lib.hid e3; have E4 := Lib.hid e4; have HL := Lib.hid hlt
  have LA := Lib.hid la; have LB := Lib.hid lb; have LC := Lib.hid lc; have LD := Lib.hid ld
  clear e1 e2 e3 e4 hlt hneg h la lb lc ld x0 x1 x2 y0 y1 y2
  have fin : ∀ v : Bool, (v = true ↔ h1 < h2 ∨ (h1 = h2 ∧ l1 < l2)) → v = r := fun v hv => by
    have q := HL.out
    cases v with
    | true => exact (q.2 (hv.1 rfl)).symm
    | false =>
      cases r with
      | false => rfl
      | true => exact absurd (hv.2 (q.1 rfl)) (by simp)
  have FIN := Lib.hid fin
  clear fin
  rcases (by omega : h1 < h2 ∨ h2 < h1 ∨ h1 = h2) with o1 | o1 | o1
  · have p1 : (h1 : Int) < (h2 : Int) := by omega
    have p2 : decide ((h1 : Int) < (h2 : Int)) = true := decide_eq_true p1
    obtain rfl : true = r := FIN.out _ (by simp; omega)
    go_enter Try.func52, Try.ntmps52
    go_wp2_with (first
        | (go_at_call_of 83 (Value.int IntKind.u64 (a : Int)); refine (mul_any a d LA.out LD.out _ E1 E2).mono ?_; rintro e w1 ⟨rfl, rfl⟩)
        | (go_at_call_of 83 (Value.int IntKind.u64 (c : Int)); refine (mul_any c b LC.out LB.out _ E3 E4).mono ?_; rintro e w1 ⟨rfl, rfl⟩))
    go_ret
    exact ⟨by first | rfl | exact ret_bool (by simp; omega), grown_trans (World.grownBy_alloc _ _ _) (World.grownBy_alloc _ _ _)⟩
  · have p1 : ¬ (h1 : Int) < (h2 : Int) := by omega
    have p2 : decide ((h1 : Int) < (h2 : Int)) = false := decide_eq_false p1
    have p3 : ((h1 : Int) == (h2 : Int)) = false := by simp; omega
    obtain rfl : false = r := FIN.out _ (by simp; omega)
    go_enter Try.func52, Try.ntmps52
    go_wp2_with (first
        | (go_at_call_of 83 (Value.int IntKind.u64 (a : Int)); refine (mul_any a d LA.out LD.out _ E1 E2).mono ?_; rintro e w1 ⟨rfl, rfl⟩)
        | (go_at_call_of 83 (Value.int IntKind.u64 (c : Int)); refine (mul_any c b LC.out LB.out _ E3 E4).mono ?_; rintro e w1 ⟨rfl, rfl⟩))
    go_ret
    exact ⟨by first | rfl | exact ret_bool (by simp; omega), grown_trans (World.grownBy_alloc _ _ _) (World.grownBy_alloc _ _ _)⟩
  · subst o1
    have p1 : ¬ (h1 : Int) < (h1 : Int) := by omega
    by_cases o2 : l1 < l2
    · have p2 : (l1 : Int) < (l2 : Int) := by omega
      have p3 : decide ((l1 : Int) < (l2 : Int)) = true := decide_eq_true p2
      obtain rfl : true = r := FIN.out _ (by simp; omega)
      go_enter Try.func52, Try.ntmps52
      go_wp2_with (first
          | (go_at_call_of 83 (Value.int IntKind.u64 (a : Int)); refine (mul_any a d LA.out LD.out _ E1 E2).mono ?_; rintro e w1 ⟨rfl, rfl⟩)
          | (go_at_call_of 83 (Value.int IntKind.u64 (c : Int)); refine (mul_any c b LC.out LB.out _ E3 E4).mono ?_; rintro e w1 ⟨rfl, rfl⟩))
      go_ret
      exact ⟨by first | rfl | exact ret_bool (by simp; omega), grown_trans (World.grownBy_alloc _ _ _) (World.grownBy_alloc _ _ _)⟩
    · have p2 : ¬ (l1 : Int) < (l2 : Int) := by omega
      have p3 : decide ((l1 : Int) < (l2 : Int)) = false := decide_eq_false p2
      obtain rfl : false = r := FIN.out _ (by simp; omega)
      go_enter Try.func52, Try.ntmps52
      go_wp2_with (first
          | (go_at_call_of 83 (Value.int IntKind.u64 (a : Int)); refine (mul_any a d LA.out LD.out _ E1 E2).mono ?_; rintro e w1 ⟨rfl, rfl⟩)
          | (go_at_call_of 83 (Value.int IntKind.u64 (c : Int)); refine (mul_any c b LC.out LB.out _ E3 E4).mono ?_; rintro e w1 ⟨rfl, rfl⟩))
      go_ret
      exact ⟨by first | rfl | exact ret_bool (by simp; omega), grown_trans (World.grownBy_alloc _ _ _) (World.grownBy_alloc _ _ _)⟩

set_option maxRecDepth 100000 in
set_option maxHeartbeats 3200000 in
theorem rcheckBoth_is (s : Seg) (a : Act) (w : World) (hs : SegAt w s) (ha : ActAt w a) {E : Int} (hE : Hid (crsE s a = E)) :
    Calls Try.prog 47 #[s.val, a.val] w fun e w' => e = .returned (.int .i64 E) ∧ w.grownBy w' none := by
  have HS := Lib.hid hs; have HA := Lib.hid ha
  have hv := hE.out
  clear hs ha
  obtain ⟨snm, sgo, sgc, gs⟩ := s
  obtain ⟨nm, sp, st, so, sc, ss, lo, lc, ls, to_, tc, ts⟩ := a
  obtain ⟨e1, he1⟩ : ∃ e, segE snm gs = e := ⟨_, rfl⟩
  obtain ⟨e2, he2⟩ : ∃ e, chkE ⟨nm, sp, st, so, sc, ss, lo, lc, ls, to_, tc, ts⟩ = e := ⟨_, rfl⟩
  have HE1 := Lib.hid he1; have HE2 := Lib.hid he2
  unfold crsE at hv
  simp only at hv
  rw [he1, he2] at hv
  have HV := Lib.hid hv
  clear hv he1 he2
  simp only [Seg.val, Act.val] at *
  have B2 : Hid (((w.alloc (.cells #[.string snm, .slice sgo gs.length sgc] 24)).alloc (.cells #[.string nm, .int .i64 sp, .int .i64 st, .slice so ss.length sc, .slice lo ls.length lc, .slice to_ ts.length tc] 36)).heap[w.heap.size + 1]? = some (.cells #[.string nm, .int .i64 sp, .int .i64 st, .slice so ss.length sc, .slice lo ls.length lc, .slice to_ ts.length tc] 36 (0, 0))) := by
    have q := mheap_new (w.alloc (.cells #[.string snm, .slice sgo gs.length sgc] 24)) (.cells #[.string nm, .int .i64 sp, .int .i64 st, .slice so ss.length sc, .slice lo ls.length lc, .slice to_ ts.length tc] 36)
    rw [show (w.alloc (.cells #[.string snm, .slice sgo gs.length sgc] 24)).heap.size = w.heap.size + 1 from by simp] at q; exact q
  have B1 : Hid (((w.alloc (.cells #[.string snm, .slice sgo gs.length sgc] 24)).alloc (.cells #[.string nm, .int .i64 sp, .int .i64 st, .slice so ss.length sc, .slice lo ls.length lc, .slice to_ ts.length tc] 36)).heap[w.heap.size]? = some (.cells #[.string snm, .slice sgo gs.length sgc] 24 (0, 0))) := mblock_at (mheap_new w _) (World.grownBy_alloc _ _ none) (by simp)
  have G1 : Hid (w.grownBy ((w.alloc (.cells #[.string snm, .slice sgo gs.length sgc] 24)).alloc (.cells #[.string nm, .int .i64 sp, .int .i64 st, .slice so ss.length sc, .slice lo ls.length lc, .slice to_ ts.length tc] 36)) none) := grown_trans (World.grownBy_alloc _ _ _) (World.grownBy_alloc _ _ _)
  go_enter Try.func47, Try.ntmps47
  go_upto_region 1 with (fail)
  generalize ((w.alloc (.cells #[.string snm, .slice sgo gs.length sgc] 24)).alloc (.cells #[.string nm, .int .i64 sp, .int .i64 st, .slice so ss.length sc, .slice lo ls.length lc, .slice to_ ts.length tc] 36)) = w1 at *
  have s0 := mblock_cell B1.out 0 _ rfl
  have s1 := mblock_cell B1.out 1 _ rfl
  go_wp2_with fail
  refine (rcheckSeg_is ⟨snm, sgo, sgc, gs⟩ _ (HS.out.grown G1.out) HE1).mono ?_; rintro e w2 ⟨rfl, hg2⟩
  have G2 := Lib.hid (grown_trans G1.out hg2)
  have B4 := Lib.hid (mblock_at B2.out hg2 (by simp))
  clear hg2 G1 B1 B2 s0 s1
  by_cases d1 : e1 = 0
  · subst d1
    have hv := HV.out
    rw [if_pos rfl] at hv
    subst hv
    clear HV
    have y0 := mblock_cell B4.out 0 _ rfl
    have y1 := mblock_cell B4.out 1 _ rfl
    have y2 := mblock_cell B4.out 2 _ rfl
    have y3 := mblock_cell B4.out 3 _ rfl
    have y4 := mblock_cell B4.out 4 _ rfl
    have y5 := mblock_cell B4.out 5 _ rfl
    go_wp2_with fail
    refine (rcheck_any ⟨nm, sp, st, so, sc, ss, lo, lc, ls, to_, tc, ts⟩ _ (HA.out.grown G2.out) HE2).mono ?_; rintro e w3 ⟨rfl, hg3⟩
    have G3 := Lib.hid (grown_trans G2.out hg3)
    clear hg3 G2 B4 y0 y1 y2 y3 y4 y5
    go_wp2_with fail
    go_ret
    exact ⟨rfl, G3.out⟩
  · have g2 : (e1 != 0) = true := by simpa using d1
    have hv := HV.out
    rw [if_neg d1] at hv
    subst hv
    clear d1 HV
    go_wp2_with fail
    go_ret
    exact ⟨rfl, G2.out⟩
end Go.Proofs.Ytckelojdjmaliaa
