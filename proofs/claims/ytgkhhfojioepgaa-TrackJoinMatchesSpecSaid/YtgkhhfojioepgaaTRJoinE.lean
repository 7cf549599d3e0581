/- The reference's Join, where it fails. -/
import Derived.Test.YtgkhhfojioepgaaTJoinB
import Derived.Test.YtgkhhfojioepgaaTRTags
import Derived.Test.YtgkhhfojioepgaaTChkd
import Derived.Test.YtgkhhfojioepgaaBaseB
namespace Go.Proofs.Ytgkhhfojioepgaa
open Go.RowKit
set_option linter.unusedSimpArgs false
set_option linter.unusedVariables false

attribute [local go_sem] Oper.semAt_some

set_option maxRecDepth 100000 in
set_option maxHeartbeats 3200000 in
theorem rJoin_e1 (a b : Act) (w : World) (ha : ActAt w a) (hb : ActAt w b) {ce : Int} (HCE : Hid (chkE a = ce)) (hne : (ce != 0) = true) :
    Calls Try.prog 33 #[a.val, b.val] w fun e w' => (∃ v, e = .returned (.tuple #[v, .int .i64 ce]) ∧ ActIs w' v act0) ∧ w.grownBy w' none := by
  have HA := Lib.hid ha; have HB := Lib.hid hb
  clear ha hb
  obtain ⟨nm, sp, st, so, sc, ss, lo, lc, ls, to_, tc, ts⟩ := a
  obtain ⟨nm2, sp2, st2, so2, sc2, ss2, lo2, lc2, ls2, to2, tc2, ts2⟩ := b
  simp only [Act.val] at *
  have M0 : Hid (JnB w #[.string nm, .int .i64 sp, .int .i64 st, .slice so ss.length sc, .slice lo ls.length lc, .slice to_ ts.length tc] #[.string nm2, .int .i64 sp2, .int .i64 st2, .slice so2 ss2.length sc2, .slice lo2 ls2.length lc2, .slice to2 ts2.length tc2] #[.string ⟨#[]⟩, .int .i64 0, .int .i64 0, .slice none 0 0, .slice none 0 0, .slice none 0 0] (((w.alloc (.cells #[.string nm, .int .i64 sp, .int .i64 st, .slice so ss.length sc, .slice lo ls.length lc, .slice to_ ts.length tc] 26)).alloc (.cells #[.string nm2, .int .i64 sp2, .int .i64 st2, .slice so2 ss2.length sc2, .slice lo2 ls2.length lc2, .slice to2 ts2.length tc2] 26)).alloc (.cells #[.string ⟨#[]⟩, .int .i64 0, .int .i64 0, .slice none 0 0, .slice none 0 0, .slice none 0 0] 26))) := JnB.new w #[.string nm, .int .i64 sp, .int .i64 st, .slice so ss.length sc, .slice lo ls.length lc, .slice to_ ts.length tc] #[.string nm2, .int .i64 sp2, .int .i64 st2, .slice so2 ss2.length sc2, .slice lo2 ls2.length lc2, .slice to2 ts2.length tc2] #[.string ⟨#[]⟩, .int .i64 0, .int .i64 0, .slice none 0 0, .slice none 0 0, .slice none 0 0]
  go_enter Try.func33, Try.ntmps33
  go_wp2_with fail
  refine (rcheck_any ⟨nm, sp, st, so, sc, ss, lo, lc, ls, to_, tc, ts⟩ _ (HA.out.grown M0.out.g) HCE).mono ?_; rintro e w1 ⟨rfl, hg1⟩
  have M1 := Lib.hid (M0.out.grown hg1)
  clear hg1 M0
  have z0 := block_cell M1.out.z 0 _ rfl
  have zf0 := block_free (k := 0) M1.out.z
  have z1 := block_cell M1.out.z 1 _ rfl
  have zf1 := block_free (k := 1) M1.out.z
  have z2 := block_cell M1.out.z 2 _ rfl
  have zf2 := block_free (k := 2) M1.out.z
  have z3 := block_cell M1.out.z 3 _ rfl
  have zf3 := block_free (k := 3) M1.out.z
  have z4 := block_cell M1.out.z 4 _ rfl
  have zf4 := block_free (k := 4) M1.out.z
  have z5 := block_cell M1.out.z 5 _ rfl
  have zf5 := block_free (k := 5) M1.out.z
  go_wp2_with fail
  refine bodyPost_ret (v := .tuple #[.agg #[.string ⟨#[]⟩, .int .i64 0, .int .i64 0, .slice none 0 0, .slice none 0 0, .slice none 0 0], .int .i64 ce]) (by simp [results, Try.results33, go_sem, z0, z1, z2, z3, z4, z5]) rfl ⟨⟨_, rfl, act0_is _⟩, ((((((M1.out.setZ 0 _).setZ 1 _).setZ 2 _).setZ 3 _).setZ 4 _).setZ 5 _).g⟩

set_option maxRecDepth 100000 in
set_option maxHeartbeats 3200000 in
theorem rJoin_e2 (a b : Act) (w : World) (ha : ActAt w a) (hb : ActAt w b) {cf : Int} (HCE : Hid (chkE a = 0)) (HCF : Hid (chkE b = cf)) (hne : (cf != 0) = true) :
    Calls Try.prog 33 #[a.val, b.val] w fun e w' => (∃ v, e = .returned (.tuple #[v, .int .i64 cf]) ∧ ActIs w' v act0) ∧ w.grownBy w' none := by
  have HA := Lib.hid ha; have HB := Lib.hid hb
  clear ha hb
  obtain ⟨nm, sp, st, so, sc, ss, lo, lc, ls, to_, tc, ts⟩ := a
  obtain ⟨nm2, sp2, st2, so2, sc2, ss2, lo2, lc2, ls2, to2, tc2, ts2⟩ := b
  simp only [Act.val] at *
  have M0 : Hid (JnB w #[.string nm, .int .i64 sp, .int .i64 st, .slice so ss.length sc, .slice lo ls.length lc, .slice to_ ts.length tc] #[.string nm2, .int .i64 sp2, .int .i64 st2, .slice so2 ss2.length sc2, .slice lo2 ls2.length lc2, .slice to2 ts2.length tc2] #[.string ⟨#[]⟩, .int .i64 0, .int .i64 0, .slice none 0 0, .slice none 0 0, .slice none 0 0] (((w.alloc (.cells #[.string nm, .int .i64 sp, .int .i64 st, .slice so ss.length sc, .slice lo ls.length lc, .slice to_ ts.length tc] 26)).alloc (.cells #[.string nm2, .int .i64 sp2, .int .i64 st2, .slice so2 ss2.length sc2, .slice lo2 ls2.length lc2, .slice to2 ts2.length tc2] 26)).alloc (.cells #[.string ⟨#[]⟩, .int .i64 0, .int .i64 0, .slice none 0 0, .slice none 0 0, .slice none 0 0] 26))) := JnB.new w #[.string nm, .int .i64 sp, .int .i64 st, .slice so ss.length sc, .slice lo ls.length lc, .slice to_ ts.length tc] #[.string nm2, .int .i64 sp2, .int .i64 st2, .slice so2 ss2.length sc2, .slice lo2 ls2.length lc2, .slice to2 ts2.length tc2] #[.string ⟨#[]⟩, .int .i64 0, .int .i64 0, .slice none 0 0, .slice none 0 0, .slice none 0 0]
  go_enter Try.func33, Try.ntmps33
  go_wp2_with fail
  refine (rcheck_any ⟨nm, sp, st, so, sc, ss, lo, lc, ls, to_, tc, ts⟩ _ (HA.out.grown M0.out.g) HCE).mono ?_; rintro e w1 ⟨rfl, hg1⟩
  have M1 := Lib.hid (M0.out.grown hg1)
  clear hg1 M0
  have b0 := block_cell M1.out.b 0 _ rfl
  have b1 := block_cell M1.out.b 1 _ rfl
  have b2 := block_cell M1.out.b 2 _ rfl
  have b3 := block_cell M1.out.b 3 _ rfl
  have b4 := block_cell M1.out.b 4 _ rfl
  have b5 := block_cell M1.out.b 5 _ rfl
  go_wp2_with fail
  refine (rcheck_any ⟨nm2, sp2, st2, so2, sc2, ss2, lo2, lc2, ls2, to2, tc2, ts2⟩ _ (HB.out.grown M1.out.g) HCF).mono ?_; rintro e w2 ⟨rfl, hg1⟩
  have M2 := Lib.hid (M1.out.grown hg1)
  clear hg1 M1
  clear b0 b1 b2 b3 b4 b5
  have z0 := block_cell M2.out.z 0 _ rfl
  have zf0 := block_free (k := 0) M2.out.z
  have z1 := block_cell M2.out.z 1 _ rfl
  have zf1 := block_free (k := 1) M2.out.z
  have z2 := block_cell M2.out.z 2 _ rfl
  have zf2 := block_free (k := 2) M2.out.z
  have z3 := block_cell M2.out.z 3 _ rfl
  have zf3 := block_free (k := 3) M2.out.z
  have z4 := block_cell M2.out.z 4 _ rfl
  have zf4 := block_free (k := 4) M2.out.z
  have z5 := block_cell M2.out.z 5 _ rfl
  have zf5 := block_free (k := 5) M2.out.z
  go_wp2_with fail
  refine bodyPost_ret (v := .tuple #[.agg #[.string ⟨#[]⟩, .int .i64 0, .int .i64 0, .slice none 0 0, .slice none 0 0, .slice none 0 0], .int .i64 cf]) (by simp [results, Try.results33, go_sem, z0, z1, z2, z3, z4, z5]) rfl ⟨⟨_, rfl, act0_is _⟩, ((((((M2.out.setZ 0 _).setZ 1 _).setZ 2 _).setZ 3 _).setZ 4 _).setZ 5 _).g⟩

set_option maxRecDepth 100000 in
set_option maxHeartbeats 3200000 in
theorem rJoin_e3 (a b : Act) (w : World) (ha : ActAt w a) (hb : ActAt w b) (HCE : Hid (chkE a = 0)) (HCF : Hid (chkE b = 0)) (hne : (a.sport != b.sport) = true) :
    Calls Try.prog 33 #[a.val, b.val] w fun e w' => (∃ v, e = .returned (.tuple #[v, .int .i64 7]) ∧ ActIs w' v act0) ∧ w.grownBy w' none := by
  have HA := Lib.hid ha; have HB := Lib.hid hb
  clear ha hb
  obtain ⟨nm, sp, st, so, sc, ss, lo, lc, ls, to_, tc, ts⟩ := a
  obtain ⟨nm2, sp2, st2, so2, sc2, ss2, lo2, lc2, ls2, to2, tc2, ts2⟩ := b
  simp only [Act.val] at *
  have M0 : Hid (JnB w #[.string nm, .int .i64 sp, .int .i64 st, .slice so ss.length sc, .slice lo ls.length lc, .slice to_ ts.length tc] #[.string nm2, .int .i64 sp2, .int .i64 st2, .slice so2 ss2.length sc2, .slice lo2 ls2.length lc2, .slice to2 ts2.length tc2] #[.string ⟨#[]⟩, .int .i64 0, .int .i64 0, .slice none 0 0, .slice none 0 0, .slice none 0 0] (((w.alloc (.cells #[.string nm, .int .i64 sp, .int .i64 st, .slice so ss.length sc, .slice lo ls.length lc, .slice to_ ts.length tc] 26)).alloc (.cells #[.string nm2, .int .i64 sp2, .int .i64 st2, .slice so2 ss2.length sc2, .slice lo2 ls2.length lc2, .slice to2 ts2.length tc2] 26)).alloc (.cells #[.string ⟨#[]⟩, .int .i64 0, .int .i64 0, .slice none 0 0, .slice none 0 0, .slice none 0 0] 26))) := JnB.new w #[.string nm, .int .i64 sp, .int .i64 st, .slice so ss.length sc, .slice lo ls.length lc, .slice to_ ts.length tc] #[.string nm2, .int .i64 sp2, .int .i64 st2, .slice so2 ss2.length sc2, .slice lo2 ls2.length lc2, .slice to2 ts2.length tc2] #[.string ⟨#[]⟩, .int .i64 0, .int .i64 0, .slice none 0 0, .slice none 0 0, .slice none 0 0]
  go_enter Try.func33, Try.ntmps33
  go_wp2_with fail
  refine (rcheck_any ⟨nm, sp, st, so, sc, ss, lo, lc, ls, to_, tc, ts⟩ _ (HA.out.grown M0.out.g) HCE).mono ?_; rintro e w1 ⟨rfl, hg1⟩
  have M1 := Lib.hid (M0.out.grown hg1)
  clear hg1 M0
  have b0 := block_cell M1.out.b 0 _ rfl
  have b1 := block_cell M1.out.b 1 _ rfl
  have b2 := block_cell M1.out.b 2 _ rfl
  have b3 := block_cell M1.out.b 3 _ rfl
  have b4 := block_cell M1.out.b 4 _ rfl
  have b5 := block_cell M1.out.b 5 _ rfl
  go_wp2_with fail
  refine (rcheck_any ⟨nm2, sp2, st2, so2, sc2, ss2, lo2, lc2, ls2, to2, tc2, ts2⟩ _ (HB.out.grown M1.out.g) HCF).mono ?_; rintro e w2 ⟨rfl, hg1⟩
  have M2 := Lib.hid (M1.out.grown hg1)
  clear hg1 M1
  clear b0 b1 b2 b3 b4 b5
  have u1 := block_cell M2.out.a 1 _ rfl
  have b1 := block_cell M2.out.b 1 _ rfl
  have z0 := block_cell M2.out.z 0 _ rfl
  have zf0 := block_free (k := 0) M2.out.z
  have z1 := block_cell M2.out.z 1 _ rfl
  have zf1 := block_free (k := 1) M2.out.z
  have z2 := block_cell M2.out.z 2 _ rfl
  have zf2 := block_free (k := 2) M2.out.z
  have z3 := block_cell M2.out.z 3 _ rfl
  have zf3 := block_free (k := 3) M2.out.z
  have z4 := block_cell M2.out.z 4 _ rfl
  have zf4 := block_free (k := 4) M2.out.z
  have z5 := block_cell M2.out.z 5 _ rfl
  have zf5 := block_free (k := 5) M2.out.z
  go_wp2_with fail
  refine bodyPost_ret (v := .tuple #[.agg #[.string ⟨#[]⟩, .int .i64 0, .int .i64 0, .slice none 0 0, .slice none 0 0, .slice none 0 0], .int .i64 7]) (by simp [results, Try.results33, go_sem, z0, z1, z2, z3, z4, z5]) rfl ⟨⟨_, rfl, act0_is _⟩, ((((((M2.out.setZ 0 _).setZ 1 _).setZ 2 _).setZ 3 _).setZ 4 _).setZ 5 _).g⟩
end Go.Proofs.Ytgkhhfojioepgaa

