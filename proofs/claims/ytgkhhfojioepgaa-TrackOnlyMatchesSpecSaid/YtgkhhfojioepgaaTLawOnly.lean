/- For all activities and lists, Only returns what the reference returns, and with all numbers the activity stays: the walk. -/
import Derived.Test.YtgkhhfojioepgaaBaseD
import Derived.Test.YtgkhhfojioepgaaTOnly
import Derived.Test.YtgkhhfojioepgaaTROnly
import Derived.Test.YtgkhhfojioepgaaTRecSame
namespace Go.Proofs.Ytgkhhfojioepgaa
open Go.RowKit
set_option linter.unusedSimpArgs false
set_option linter.unusedVariables false

theorem cinfo_int : (Try.prog.info? 3).map (fun i => (i.zero, i.size, i.bytes)) = some (some (.int .i64 0), 1, 8) := by kernel_rfl
def numsV (k : Nat) : List Value := (List.range k).map fun (i : Nat) => Value.int .i64 (i : Int)
theorem numsV_succ (k : Nat) : numsV (k + 1) = numsV k ++ [.int .i64 (k : Int)] := by unfold numsV; rw [List.range_succ, List.map_append]; rfl
theorem own_nums {w : World} {base n : Nat} {v : Value} (h : w.ownsRow base 3 1 v n (numsV n)) : ∃ ao cap, v = .slice ao n cap ∧ IntsAt w ao (allI n) := by
  rcases h.2 with ⟨hv, h0⟩ | ⟨g, cap, cur, hv, hb, hg, _⟩
  · subst h0
    exact ⟨none, 0, hv, ⟨fun _ => rfl, fun a h => by simp at h, fun a h => by simp at h⟩⟩
  · refine ⟨some ⟨g, 0, none⟩, cap, hv, ⟨fun h => by simp at h, fun a ha _ => by cases ha; rfl, fun a ha i hi => ?_⟩⟩
    cases ha
    rw [allI_len] at hi
    have := h.cells (g := g) (by rw [hv]; rfl) i (.int .i64 (i : Int)) (by unfold numsV; simp [hi])
    rw [add_off] at this
    rw [allI_at hi]; simpa using this

set_option maxRecDepth 100000 in
set_option maxHeartbeats 3200000 in
theorem only_law (a : Act) (li : Option Addr) (lic : Nat) (l : List Int) (hll : (l.length : Int) ≤ 9223372036854775807) (w : World) (ha : ActAt w a) (hsc : a.ss.length ≤ a.sc) (hby : a.ss.length * 56 ≤ 140737488355328) (hs : IntsAt w li l) (_hc : l.length ≤ lic) :
    Calls Try.prog 6 #[a.val, .slice li l.length lic] w fun e w' => e = .returned (.bool true) ∧ w.grownBy w' none := by
  rcases h2 : onlyO a l with ⟨c, D⟩
  rcases h3 : onlyO a (allI a.ss.length) with ⟨c2, D2⟩
  have H2 := Lib.hid h2; have HA := Lib.hid ha; have H3 := Lib.hid h3; have HI := Lib.hid hs
  have HZ : Hid (D2 = 0 → c2 = a) := fun h0 => by
    by_cases hc : chkE a = 0
    · have q := only_all hc; rw [H3.out] at q; exact (Prod.mk.inj q).1
    · have q := H3.out; unfold onlyO at q; rw [if_neg hc] at q; exact absurd ((Prod.mk.inj q).2.trans h0) hc
  have hsl : (a.ss.length : Int) ≤ 9223372036854775807 := ha.sl
  clear h2 h3 ha hs hsc
  obtain ⟨nm, sp, st, so, sc, ss, lo, lc, ls, to_, tc, ts⟩ := a
  simp only [Act.val] at *
  have GB := Lib.hid (World.grownBy_alloc w (.cells #[.string nm, .int .i64 sp, .int .i64 st, .slice so ss.length sc, .slice lo ls.length lc, .slice to_ ts.length tc] 26) none)
  have Ba : Hid ((w.alloc (.cells #[.string nm, .int .i64 sp, .int .i64 st, .slice so ss.length sc, .slice lo ls.length lc, .slice to_ ts.length tc] 26)).heap[w.heap.size]? = some (.cells #[.string nm, .int .i64 sp, .int .i64 st, .slice so ss.length sc, .slice lo ls.length lc, .slice to_ ts.length tc] 26 (0, 0))) := heap_alloc_new w _
  obtain ⟨i0, hi0, hz0, hz1, hz2⟩ := info_parts cinfo_int
  have HI0 := Lib.hid hi0; have HZ0 := Lib.hid hz0; have HZ1 := Lib.hid hz1; have HZ2 := Lib.hid hz2
  clear hi0 hz0 hz1 hz2
  have HBY : Hid (ss.length ≤ 3000000000000) := by show _ ≤ _; omega
  clear hby
  go_enter Try.func6, Try.ntmps6
  go_wp2_with fail
  refine (Only_any ⟨nm, sp, st, so, sc, ss, lo, lc, ls, to_, tc, ts⟩ li lic l hll _ (HA.out.grown GB.out) (HI.out.grown GB.out) H2).mono ?_; rintro e w1 ⟨⟨v1, rfl, his⟩, hg⟩
  obtain ⟨s1, cs1, l1, cl1, t1, ct1, rfl, hat1⟩ := his
  have HX := Lib.hid hat1
  clear hat1
  replace Ba := Lib.hid (block_at Ba.out hg (by simp))
  replace GB := Lib.hid (grown_trans GB.out hg)
  clear hg 
  go_upto_region 2 with (fail)
  obtain ⟨V0, hV⟩ : ∃ V, w1.alloc (.cells #[.string c.name, .int .i64 c.sport, .int .i64 c.start, .slice s1 c.ss.length cs1, .slice l1 c.ls.length cl1, .slice t1 c.ts.length ct1] 26) = V := ⟨_, rfl⟩
  have gV : w1.grownBy V0 none := by rw [← hV]; exact World.grownBy_alloc _ _ _
  have Bx : Hid (V0.heap[w1.heap.size]? = some (.cells #[.string c.name, .int .i64 c.sport, .int .i64 c.start, .slice s1 c.ss.length cs1, .slice l1 c.ls.length cl1, .slice t1 c.ts.length ct1] 26 (0, 0))) := by rw [← hV]; exact heap_alloc_new _ _
  rw [hV]
  replace Ba := Lib.hid (block_at Ba.out gV (by simp))
  replace HX := Lib.hid (HX.out.grown gV)
  replace GB := Lib.hid (grown_trans GB.out gV)
  clear hV gV
  generalize w1.heap.size = blkx at *
  have a0 := block_cell Ba.out 0 _ rfl
  have a1 := block_cell Ba.out 1 _ rfl
  have a2 := block_cell Ba.out 2 _ rfl
  have a3 := block_cell Ba.out 3 _ rfl
  have a4 := block_cell Ba.out 4 _ rfl
  have a5 := block_cell Ba.out 5 _ rfl
  go_wp2_with fail
  refine (rOnly_any ⟨nm, sp, st, so, sc, ss, lo, lc, ls, to_, tc, ts⟩ li lic l hll _ (HA.out.grown GB.out) (HI.out.grown GB.out) H2).mono ?_; rintro e w2 ⟨⟨v2, rfl, his⟩, hg⟩
  obtain ⟨s2, cs2, l2, cl2, t2, ct2, rfl, hat2⟩ := his
  have HY := Lib.hid hat2
  clear hat2
  replace Ba := Lib.hid (block_at Ba.out hg (by simp))
  replace Bx := Lib.hid (block_at Bx.out hg (by simp))
  replace HX := Lib.hid (HX.out.grown hg)
  replace GB := Lib.hid (grown_trans GB.out hg)
  clear hg a0 a1 a2 a3 a4 a5
  go_upto_region 3 with (fail)
  obtain ⟨V1, hV⟩ : ∃ V, w2.alloc (.cells #[.string c.name, .int .i64 c.sport, .int .i64 c.start, .slice s2 c.ss.length cs2, .slice l2 c.ls.length cl2, .slice t2 c.ts.length ct2] 26) = V := ⟨_, rfl⟩
  have gV : w2.grownBy V1 none := by rw [← hV]; exact World.grownBy_alloc _ _ _
  have By : Hid (V1.heap[w2.heap.size]? = some (.cells #[.string c.name, .int .i64 c.sport, .int .i64 c.start, .slice s2 c.ss.length cs2, .slice l2 c.ls.length cl2, .slice t2 c.ts.length ct2] 26 (0, 0))) := by rw [← hV]; exact heap_alloc_new _ _
  rw [hV]
  replace Ba := Lib.hid (block_at Ba.out gV (by simp))
  replace Bx := Lib.hid (block_at Bx.out gV (by simp))
  replace HX := Lib.hid (HX.out.grown gV)
  replace HY := Lib.hid (HY.out.grown gV)
  replace GB := Lib.hid (grown_trans GB.out gV)
  clear hV gV
  generalize w2.heap.size = blky at *
  have x0 := block_cell Bx.out 0 _ rfl
  have x1 := block_cell Bx.out 1 _ rfl
  have x2 := block_cell Bx.out 2 _ rfl
  have x3 := block_cell Bx.out 3 _ rfl
  have x4 := block_cell Bx.out 4 _ rfl
  have x5 := block_cell Bx.out 5 _ rfl
  have y0 := block_cell By.out 0 _ rfl
  have y1 := block_cell By.out 1 _ rfl
  have y2 := block_cell By.out 2 _ rfl
  have y3 := block_cell By.out 3 _ rfl
  have y4 := block_cell By.out 4 _ rfl
  have y5 := block_cell By.out 5 _ rfl
  go_wp2_with fail
  refine (same_is ⟨s1, cs1, l1, cl1, t1, ct1, rfl, HX.out⟩ ⟨s2, cs2, l2, cl2, t2, ct2, rfl, HY.out⟩).mono ?_; rintro e w5 ⟨rfl, hg⟩
  replace GB := Lib.hid (grown_trans GB.out hg)
  replace Ba := Lib.hid (block_at Ba.out hg (by simp))
  have a3 := block_cell Ba.out 3 _ rfl
  have dne : (D != D) = false := by simp
  clear hg Bx By HX HY x0 y0 x1 y1 x2 y2 x3 y3 x4 y4 x5 y5
  go_wp2_with fail
  clear a3
  go_loopw [9, 37] (fun sv iv wr => ∃ (k : Nat) (v : Value), v = sv ∧ iv = .int .i64 k ∧ k ≤ ss.length ∧ Hid (wr.heap[w.heap.size]? = some (.cells #[.string nm, .int .i64 sp, .int .i64 st, .slice so ss.length sc, .slice lo ls.length lc, .slice to_ ts.length tc] 26 (0, 0))) ∧ Hid (w.grownBy wr none) ∧ Hid (wr.ownsRow (w.heap.size + 1) 3 1 v k (numsV k)))
    (fun _ iv _ => ss.length - (intOf iv).toNat)
  case atStart => exact ⟨0, _, rfl, rfl, Nat.zero_le _, Ba, GB, World.ownsRow_nil _ _ _ _⟩
  case round =>
    obtain ⟨k, v, rfl, rfl, hk, hB, hG, hO⟩ := hrel
    by_cases hlt : k < ss.length
    · have HLT := Lib.hid hlt
      have hsz : w.heap.size + 1 ≤ wr.heap.size := lt_of_block hB.out
      go_wp2_with (at_builtin; go_loud (refine wpList_append_own _ rfl _ _ 48 rfl (w.heap.size + 1) 3 i0 (.int .i64 0) 1 8 Try.underlying48 HI0.out HZ0.out HZ1.out HZ2.out rfl (by decide) _ _ _ rfl (hO.out.alloc _) ⟨wr.heap.size, 0, none⟩ 1 1 [.int .i64 (k : Int)] rfl rfl (World.news_of_block (cs := #[.int .i64 (k : Int)]) (t := 3) (fr := (0, 0)) (heap_alloc_new wr _)) (by simp [Value.oneCell']) (by have := HBY.out; have := HLT.out; unfold maxLen; omega) (by have := HBY.out; have := HLT.out; omega) (Nat.le_trans hsz (World.grownBy_alloc _ _ none).size) ?_); go_loud (intro v' w10 ho10 hg10 hnil; have B6 := Lib.hid (block_at (block_at hB.out (World.grownBy_alloc _ _ none) (by simp)) hg10 (fun e => by have := (hO.out.lt _ e.symm).1; omega)); have G6 := Lib.hid (grown_rowR (grown_trans hG.out (World.grownBy_alloc _ _ _)) hg10 (fun r hr => by have := (hO.out.lt r hr).1; omega)); have O6 := Lib.hid ho10; clear ho10 hg10 hnil hB hG hO hsz))
      go_roundw
      case rel => exact ⟨k + 1, _, rfl, by go_num, HLT.out, B6, G6, by have q := O6; rw [numsV_succ]; exact q⟩
      case measure => have := HLT.out; simp [intOf]; omega
    · obtain rfl : k = ss.length := by omega
      obtain ⟨ao, cap, rfl, hia⟩ := own_nums hO.out
      have HIA := Lib.hid hia
      have KO : Hid (∀ V : World, ActAt V ⟨nm, sp, st, so, sc, ss, lo, lc, ls, to_, tc, ts⟩ → IntsAt V ao (allI ss.length) → Calls Try.prog 30 #[.agg #[.string nm, .int .i64 sp, .int .i64 st, .slice so ss.length sc, .slice lo ls.length lc, .slice to_ ts.length tc], .slice ao ss.length cap] V fun e w' => (∃ v, e = .returned (.tuple #[v, .int .i64 D2]) ∧ ActIs w' v c2) ∧ V.grownBy w' none) := fun V hV hi => by
        have q := Only_any ⟨nm, sp, st, so, sc, ss, lo, lc, ls, to_, tc, ts⟩ ao cap (allI ss.length) (by rw [allI_len]; exact hsl) V hV hi H3
        rw [allI_len] at q
        exact q
      clear hia hO
      have a0 := block_cell hB.out 0 _ rfl
      have a1 := block_cell hB.out 1 _ rfl
      have a2 := block_cell hB.out 2 _ rfl
      have a3 := block_cell hB.out 3 _ rfl
      have a4 := block_cell hB.out 4 _ rfl
      have a5 := block_cell hB.out 5 _ rfl
      go_wp2_with fail
      refine (KO.out _ (HA.out.grown hG.out) HIA.out).mono ?_; rintro e w7 ⟨⟨v3, rfl, his⟩, hg⟩
      obtain ⟨s3, cs3, l3, cl3, t3, ct3, rfl, hat3⟩ := his
      have HW := Lib.hid hat3
      have B7 := Lib.hid (block_at hB.out hg (by simp))
      have G7 := Lib.hid (grown_trans hG.out hg)
      clear hat3 hg hB hG a0 a1 a2 a3 a4 a5 KO HIA
      go_upto_region 12 with (fail)
      obtain ⟨V8, hV⟩ : ∃ V, w7.alloc (.cells #[.string c2.name, .int .i64 c2.sport, .int .i64 c2.start, .slice s3 c2.ss.length cs3, .slice l3 c2.ls.length cl3, .slice t3 c2.ts.length ct3] 26) = V := ⟨_, rfl⟩
      have gV : w7.grownBy V8 none := by rw [← hV]; exact World.grownBy_alloc _ _ _
      have Bz : Hid (V8.heap[w7.heap.size]? = some (.cells #[.string c2.name, .int .i64 c2.sport, .int .i64 c2.start, .slice s3 c2.ss.length cs3, .slice l3 c2.ls.length cl3, .slice t3 c2.ts.length ct3] 26 (0, 0))) := by rw [← hV]; exact heap_alloc_new _ _
      rw [hV]
      have B8 := Lib.hid (block_at B7.out gV (by simp))
      have G8 := Lib.hid (grown_trans G7.out gV)
      have HW8 := Lib.hid (HW.out.grown gV)
      clear hV gV B7 G7 HW
      generalize w7.heap.size = blkz at *
      by_cases hd : D2 = 0
      · have hce := HZ.out hd
        subst hd
        subst hce
        have dz : ((0 : Int) != 0) = false := by decide
        have a0 := block_cell B8.out 0 _ rfl
        have z0 := block_cell Bz.out 0 _ rfl
        have a1 := block_cell B8.out 1 _ rfl
        have z1 := block_cell Bz.out 1 _ rfl
        have a2 := block_cell B8.out 2 _ rfl
        have z2 := block_cell Bz.out 2 _ rfl
        have a3 := block_cell B8.out 3 _ rfl
        have z3 := block_cell Bz.out 3 _ rfl
        have a4 := block_cell B8.out 4 _ rfl
        have z4 := block_cell Bz.out 4 _ rfl
        have a5 := block_cell B8.out 5 _ rfl
        have z5 := block_cell Bz.out 5 _ rfl
        simp only at z0 z1 z2 z3 z4 z5
        go_wp2_with fail
        refine (same_is (c := ⟨nm, sp, st, so, sc, ss, lo, lc, ls, to_, tc, ts⟩) ⟨so, sc, lo, lc, to_, tc, rfl, HA.out.grown G8.out⟩ ⟨s3, cs3, l3, cl3, t3, ct3, rfl, HW8.out⟩).mono ?_; rintro e w9 ⟨rfl, hg⟩
        replace G8 := Lib.hid (grown_trans G8.out hg)
        clear hg a0 z0 a1 z1 a2 z2 a3 z3 a4 z4 a5 z5
        go_wp2_with fail
        refine (told_any _).mono ?_; rintro e w6 ⟨rfl, hg⟩
        replace G8 := Lib.hid (grown_trans G8.out hg)
        clear hg
        go_wp2_with fail
        go_ret
        exact ⟨by first | rfl | simp, G8.out⟩
      · have dz : (D2 != 0) = true := by simpa using hd
        clear hd HZ
        go_wp2_with fail
        refine (told_any _).mono ?_; rintro e w6 ⟨rfl, hg⟩
        replace G8 := Lib.hid (grown_trans G8.out hg)
        clear hg
        go_wp2_with fail
        go_ret
        exact ⟨by first | rfl | simp, G8.out⟩
end Go.Proofs.Ytgkhhfojioepgaa
