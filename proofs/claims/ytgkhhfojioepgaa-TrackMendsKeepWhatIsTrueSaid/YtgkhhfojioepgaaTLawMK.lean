/- Fill changes nothing that is known, and fills nothing twice; each height of Level is one of those around: the walk. -/
import Derived.Test.YtgkhhfojioepgaaBaseD
import Derived.Test.YtgkhhfojioepgaaTConZ
namespace Go.Proofs.Ytgkhhfojioepgaa
open Go.RowKit
set_option linter.unusedSimpArgs false
set_option linter.unusedVariables false

theorem fillO_ok {a c : Act} {gap : Int} (h : fillO a gap = (c, 0)) : chkE a = 0 ∧ (0 ≤ gap ∧ gap ≤ 1000000) ∧ c = { a with ss := fill3 gap a.ss } := by
  unfold fillO at h
  split at h
  · rename_i h1
    split at h
    · rename_i h2
      simp only [Prod.mk.injEq] at h
      exact ⟨h1, h2, h.1.symm⟩
    · simp only [Prod.mk.injEq] at h; omega
  · rename_i h1
    simp only [Prod.mk.injEq] at h; exact absurd h.2 h1
theorem levelO_ok {a c : Act} {width : Int} (h : levelO a width = (c, 0)) : chkE a = 0 ∧ (0 ≤ width ∧ width ≤ 50) ∧ c = { a with ss := lvA a.ss width.toNat a.ss.length } := by
  unfold levelO at h
  split at h
  · rename_i h1
    split at h
    · rename_i h2
      simp only [Prod.mk.injEq] at h
      exact ⟨h1, h2, h.1.symm⟩
    · simp only [Prod.mk.injEq] at h; omega
  · rename_i h1
    simp only [Prod.mk.injEq] at h; exact absurd h.2 h1

set_option maxRecDepth 100000 in
set_option maxHeartbeats 6400000 in
theorem mk_law (a : Act) (width gap : Int) (w : World) (ha : ActAt w a) (hsc : a.ss.length ≤ a.sc) :
    Calls Try.prog 9 #[a.val, .int .i64 width, .int .i64 gap] w fun e w' => e = .returned (.bool true) ∧ w.grownBy w' none := by
  rcases h1 : fillO a gap with ⟨c, E⟩
  rcases h3 : levelO a width with ⟨e, F⟩
  have H1 := Lib.hid h1; have H3 := Lib.hid h3; have HA := Lib.hid ha; have HSC := Lib.hid hsc
  clear h1 h3 ha hsc
  have K3 : Hid (F = 0 → ∃ wd : Nat, width = (wd : Int) ∧ wd ≤ 50 ∧ chkE a = 0 ∧ { a with ss := lvA a.ss wd a.ss.length } = e) := fun h => by
    have q := H3.out
    rw [h] at q
    obtain ⟨k1, k2, k3⟩ := levelO_ok q
    exact ⟨width.toNat, by omega, by omega, k1, k3.symm⟩
  have K1 : Hid (E = 0 → chkE a = 0 ∧ (0 ≤ gap ∧ gap ≤ 1000000) ∧ { a with ss := fill3 gap a.ss } = c) := fun h => by
    have q := H1.out
    rw [h] at q
    obtain ⟨k1, k2, k3⟩ := fillO_ok q
    exact ⟨k1, k2, k3.symm⟩
  obtain ⟨nm, sp, st, so, sc, ss, lo, lc, ls, to_, tc, ts⟩ := a
  simp only [Act.val]
  have GB := Lib.hid (World.grownBy_alloc w (.cells #[.string nm, .int .i64 sp, .int .i64 st, .slice so ss.length sc, .slice lo ls.length lc, .slice to_ ts.length tc] 26) none)
  have Ba : Hid ((w.alloc (.cells #[.string nm, .int .i64 sp, .int .i64 st, .slice so ss.length sc, .slice lo ls.length lc, .slice to_ ts.length tc] 26)).heap[w.heap.size]? = some (.cells #[.string nm, .int .i64 sp, .int .i64 st, .slice so ss.length sc, .slice lo ls.length lc, .slice to_ ts.length tc] 26 (0, 0))) := heap_alloc_new w _
  go_enter Try.func9, Try.ntmps9
  go_wp2_with fail
  refine (Fill_any ⟨nm, sp, st, so, sc, ss, lo, lc, ls, to_, tc, ts⟩ gap _ (HA.out.grown GB.out) H1).mono ?_; rintro e9 w1 ⟨⟨v1, rfl, his⟩, hg⟩
  obtain ⟨s1, cs1, l1, cl1, t1, ct1, rfl, hat, -⟩ := his
  have Hx := Lib.hid hat
  replace Ba := Lib.hid (block_at (row := none) Ba.out hg (by simp))
  replace GB := Lib.hid (grown_trans GB.out hg)
  have WBX0 := lt_of_block Ba.out
  clear hat hg
  go_upto_region 2 with (fail)
  obtain ⟨V1, hV⟩ : ∃ V, w1.alloc (.cells #[.string c.name, .int .i64 c.sport, .int .i64 c.start, .slice s1 c.ss.length cs1, .slice l1 c.ls.length cl1, .slice t1 c.ts.length ct1] 26) = V := ⟨_, rfl⟩
  have gV : w1.grownBy V1 none := by rw [← hV]; exact World.grownBy_alloc _ _ _
  have Bx : Hid (V1.heap[w1.heap.size]? = some (.cells #[.string c.name, .int .i64 c.sport, .int .i64 c.start, .slice s1 c.ss.length cs1, .slice l1 c.ls.length cl1, .slice t1 c.ts.length ct1] 26 (0, 0))) := by rw [← hV]; exact heap_alloc_new _ _
  rw [hV]
  replace Ba := Lib.hid (block_at (row := none) Ba.out gV (by simp))
  replace Hx := Lib.hid (Hx.out.grown gV)
  replace GB := Lib.hid (grown_trans GB.out gV)
  clear hV gV
  generalize w1.heap.size = blkx at *
  have WBX : w.heap.size ≤ blkx := by omega
  have NXA0 : w.heap.size ≠ blkx := by omega
  clear WBX0
  rcases h2 : fillO ⟨c.name, c.sport, c.start, s1, cs1, c.ss, l1, cl1, c.ls, t1, ct1, c.ts⟩ gap with ⟨d, D⟩
  have H2 := Lib.hid h2
  clear h2
  have x0 := block_cell Bx.out 0 _ rfl
  have x1 := block_cell Bx.out 1 _ rfl
  have x2 := block_cell Bx.out 2 _ rfl
  have x3 := block_cell Bx.out 3 _ rfl
  have x4 := block_cell Bx.out 4 _ rfl
  have x5 := block_cell Bx.out 5 _ rfl
  go_wp2_with fail
  refine (Fill_any ⟨c.name, c.sport, c.start, s1, cs1, c.ss, l1, cl1, c.ls, t1, ct1, c.ts⟩ gap _ Hx.out H2).mono ?_; rintro e9 w2 ⟨⟨v2, rfl, his⟩, hg⟩
  obtain ⟨s2, cs2, l2, cl2, t2, ct2, rfl, hat, -⟩ := his
  have Hy := Lib.hid hat
  replace Ba := Lib.hid (block_at (row := none) Ba.out hg (by simp))
  replace Bx := Lib.hid (block_at (row := none) Bx.out hg (by simp))
  replace Hx := Lib.hid (Hx.out.grown hg)
  replace GB := Lib.hid (grown_trans GB.out hg)
  clear hat hg x0 x1 x2 x3 x4 x5
  go_upto_region 3 with (fail)
  obtain ⟨V2, hV⟩ : ∃ V, w2.alloc (.cells #[.string d.name, .int .i64 d.sport, .int .i64 d.start, .slice s2 d.ss.length cs2, .slice l2 d.ls.length cl2, .slice t2 d.ts.length ct2] 26) = V := ⟨_, rfl⟩
  have gV : w2.grownBy V2 none := by rw [← hV]; exact World.grownBy_alloc _ _ _
  have By : Hid (V2.heap[w2.heap.size]? = some (.cells #[.string d.name, .int .i64 d.sport, .int .i64 d.start, .slice s2 d.ss.length cs2, .slice l2 d.ls.length cl2, .slice t2 d.ts.length ct2] 26 (0, 0))) := by rw [← hV]; exact heap_alloc_new _ _
  rw [hV]
  replace Ba := Lib.hid (block_at (row := none) Ba.out gV (by simp))
  replace Bx := Lib.hid (block_at (row := none) Bx.out gV (by simp))
  replace Hx := Lib.hid (Hx.out.grown gV)
  replace Hy := Lib.hid (Hy.out.grown gV)
  replace GB := Lib.hid (grown_trans GB.out gV)
  clear hV gV
  generalize w2.heap.size = blky at *
  by_cases hE : E = 0
  case neg =>
    have f0 : (E == 0) = false := by simpa using hE
    clear hE K1 H1 H2 Hx Hy By
    have a0 := block_cell Ba.out 0 _ rfl
    have a1 := block_cell Ba.out 1 _ rfl
    have a2 := block_cell Ba.out 2 _ rfl
    have a3 := block_cell Ba.out 3 _ rfl
    have a4 := block_cell Ba.out 4 _ rfl
    have a5 := block_cell Ba.out 5 _ rfl
    go_wp2_with fail
    refine (Level_any ⟨nm, sp, st, so, sc, ss, lo, lc, ls, to_, tc, ts⟩ width _ (HA.out.grown GB.out) HSC.out H3).mono ?_; rintro e9 w13 ⟨⟨v3, rfl, his⟩, hg⟩
    obtain ⟨s3, cs3, l3, cl3, t3, ct3, rfl, hat, hfar⟩ := his
    have HT := Lib.hid hat; have HF := Lib.hid hfar
    have HSZ : Hid (blkx < V2.heap.size) := lt_of_block Bx.out
    have NXA : Hid (w.heap.size ≠ blkx) := NXA0
    replace Ba := Lib.hid (block_at (row := none) Ba.out hg (by simp))
    replace Bx := Lib.hid (block_at (row := none) Bx.out hg (by simp))
    replace GB := Lib.hid (grown_trans GB.out hg)
    clear hat hfar hg a0 a1 a2 a3 a4 a5
    have z0 := block_cell Bx.out 0 _ rfl
    have z1 := block_cell Bx.out 1 _ rfl
    have z2 := block_cell Bx.out 2 _ rfl
    have z3 := block_cell Bx.out 3 _ rfl
    have z4 := block_cell Bx.out 4 _ rfl
    have z5 := block_cell Bx.out 5 _ rfl
    have y0 := block_free (k := 0) Bx.out
    have y1 := block_free (k := 1) Bx.out
    have y2 := block_free (k := 2) Bx.out
    have y3 := block_free (k := 3) Bx.out
    have y4 := block_free (k := 4) Bx.out
    have y5 := block_free (k := 5) Bx.out
    go_upto_region 14 with (fail)
    obtain ⟨V14, hV⟩ : ∃ V, ((((((w13.setCell ⟨blkx, 0, none⟩ (.string e.name)).setCell ⟨blkx, 1, none⟩ (.int .i64 e.sport)).setCell ⟨blkx, 2, none⟩ (.int .i64 e.start)).setCell ⟨blkx, 3, none⟩ (.slice s3 e.ss.length cs3)).setCell ⟨blkx, 4, none⟩ (.slice l3 e.ls.length cl3)).setCell ⟨blkx, 5, none⟩ (.slice t3 e.ts.length ct3)) = V := ⟨_, rfl⟩
    have G4 : Hid (w.grownBy V14 none) := by show _; rw [← hV]; exact grown_far (grown_far (grown_far (grown_far (grown_far (grown_far GB.out WBX _ _) WBX _ _) WBX _ _) WBX _ _) WBX _ _) WBX _ _
    have B4 : Hid (V14.heap[blkx]? = some (.cells #[.string e.name, .int .i64 e.sport, .int .i64 e.start, .slice s3 e.ss.length cs3, .slice l3 e.ls.length cl3, .slice t3 e.ts.length ct3] 26 (0, 0))) := by show _; rw [← hV]; exact block_set (block_set (block_set (block_set (block_set (block_set Bx.out _) _) _) _) _) _
    have BA4 : Hid (V14.heap[w.heap.size]? = some (.cells #[.string nm, .int .i64 sp, .int .i64 st, .slice so ss.length sc, .slice lo ls.length lc, .slice to_ ts.length tc] 26 (0, 0))) := by show _; rw [← hV]; exact blk_far4 (blk_far4 (blk_far4 (blk_far4 (blk_far4 (blk_far4 Ba.out NXA.out _ _) NXA.out _ _) NXA.out _ _) NXA.out _ _) NXA.out _ _) NXA.out _ _
    have H4 : Hid (ActAt V14 ⟨e.name, e.sport, e.start, s3, cs3, e.ss, l3, cl3, e.ls, t3, ct3, e.ts⟩) := by
      show _
      rw [← hV]
      have hs := HSZ.out
      refine HT.out.far HF.out (fun p hp => ?_)
      iterate 6 rw [World.cell?_setCell_other _ _ _ _ (fun e => by subst e; simp at hp; omega)]
    rw [hV]
    clear hV z0 z1 z2 z3 z4 z5 y0 y1 y2 y3 y4 y5 Bx HT HF HSZ GB Ba
    by_cases hF : F = 0
    case neg =>
      have f1 : (F != 0) = true := by simpa using hF
      clear hF
      go_wp2_with fail
      refine (told_any _).mono ?_; rintro e w7 ⟨rfl, hg⟩
      replace G4 := Lib.hid (grown_trans G4.out hg)
      clear hg
      go_wp2_with fail
      go_ret
      exact ⟨by first | rfl | simp, G4.out⟩
    subst hF
    obtain ⟨wd, hwd, hw50, hce2, he⟩ := K3.out rfl
    subst he
    simp only at B4 H4
    subst hwd
    obtain ⟨LV, hLV⟩ : ∃ L, lvA ss wd ss.length = L := ⟨_, rfl⟩
    have HLV := Lib.hid hLV
    have hll : LV.length = ss.length := by rw [← hLV]; exact lv_len ss wd ss.length
    rw [hLV] at B4 H4
    rw [hll] at B4
    have HLL := Lib.hid hll
    have hsl : (ss.length : Int) ≤ 20000 := (chk_ok hce2).sl
    have lne : ((ss.length : Int) != (ss.length : Int)) = false := by simp
    have lne2 : ((LV.length : Int) != (ss.length : Int)) = false := by rw [hll]; simp
    have x3 := block_cell B4.out 3 _ rfl
    have a3 := block_cell BA4.out 3 _ rfl
    try simp only at x3
    clear hLV hll hce2
    go_wp2_with fail
    clear x3 a3
    go_loopw [122] (fun iv wr => ∃ (k : Nat), iv = .int .i64 (k : Int) ∧ k ≤ ss.length ∧ Hid (V14.grownBy wr none)) (fun iv _ => ss.length - (intOf iv).toNat)
    case atStart => exact ⟨0, rfl, Nat.zero_le _, grown_refl _ _⟩
    case round =>
      obtain ⟨k, rfl, hk, hG⟩ := hrel
      by_cases hlt : k < ss.length
      · obtain ⟨b, off, rfl⟩ := lv_so HA.out.hs (fun e => by have e2 : ss = [] := e; rw [e2] at hlt; simp at hlt)
        have hltv : k < LV.length := by rw [HLL.out]; exact hlt
        have hs3 := (H4.out.grown hG.out).hs
        simp only at hs3
        obtain ⟨b3, o3, hso3⟩ := lv_so hs3 (fun e => by have e2 : LV = [] := e; rw [e2] at hltv; simp at hltv)
        obtain ⟨c0, c1, c2, c3, c4, c5, c6⟩ := hs3.cells _ hso3 k hltv
        rw [← smpD_at hltv] at c0 c1 c2 c3 c4 c5 c6
        simp only at c0 c1 c2 c3 c4 c5 c6
        obtain ⟨hw0, hw1, hw2, hw3, hw4⟩ := win_len (A := ss) (wd := wd) hlt
        have HEX := Lib.hid (lv_has (wd := wd) hlt)
        rw [HLV.out] at HEX
        obtain ⟨f, hf⟩ : ∃ f, frW wd k = f := ⟨_, rfl⟩
        obtain ⟨t, ht⟩ : ∃ t, toW ss.length wd k = t := ⟨_, rfl⟩
        rw [hf, ht] at hw0
        rw [hf] at hw1
        rw [ht] at hw2 hw3
        rw [hf, ht] at hw4
        have hsc := HSC.out
        try simp only at hsc
        have mx : max (0 : Int) ((k : Int) - (wd : Int)) = (f : Int) := by unfold frW at hf; omega
        have mn : min (ss.length : Int) ((k : Int) + (wd : Int) + 1) = (t : Int) := by unfold toW at ht; omega
        have q1 : IntKind.i64.wrap ((k : Int) - (wd : Int)) = (k : Int) - (wd : Int) := IntWalk.i64_in _ (by omega)
        have q2 : IntKind.i64.wrap ((k : Int) + (wd : Int)) = (k : Int) + (wd : Int) := IntWalk.i64_in _ (by omega)
        have q3 : IntKind.i64.wrap ((k : Int) + (wd : Int) + 1) = (k : Int) + (wd : Int) + 1 := IntWalk.i64_in _ (by omega)
        have rk : IntKind.i64.wrap ((k : Int) + 1) = (k : Int) + 1 := IntWalk.i64_in _ (by omega)
        obtain ⟨u, hu⟩ : ∃ u, smpD LV k = u := ⟨_, rfl⟩
        rw [hu] at c0 c1 c2 c3 c4 c5 c6 HEX
        have KC : Hid (∀ (V : World) (sb : Nat), V14.grownBy V none → V.cell? ⟨sb, 3, none⟩ = some (.int .i64 u.z) → Calls Try.prog 38 #[.slice (some ⟨b, off + f * 7, none⟩) (t - f) (sc - f), .func (.func 39) #[] #[.pointer (some ⟨sb, 0, none⟩)]] V fun e w' => e = .returned (.bool true) ∧ V.grownBy w' none) := fun V sb hV hz => by
          have q := containsZ_is b (off + f * 7) (sc - f) (winL ss wd k) (by rw [hw0]; omega) u.z HEX.out sb V (by unfold winL; rw [hf, ht]; exact smps_win (HA.out.hs.grown (grown_trans G4.out hV)) f (t - f)) hz
          rw [hw0] at q
          exact q
        have HLT := Lib.hid hlt
        have e1 : (0 : Int) ≤ (k : Int) := by omega
        have e2 : (k : Int) < (ss.length : Int) := by omega
        have e2b : (k : Int) < (LV.length : Int) := by omega
        have e3 : (0 : Int) ≤ (f : Int) := by omega
        have e4 : (f : Int) ≤ (t : Int) := by omega
        have e5 : (t : Int) ≤ (sc : Int) := by omega
        have e6 : f ≤ t := by omega
        have e7 : t ≤ sc := by omega
        have e8 : ¬ sc = f := by omega
        subst hso3
        clear hw0 hw1 hw2 hw3 hw4 hf ht hsc hk hlt hltv hs3 hu
        go_upto_region 21 with (fail)
        obtain ⟨V15, hV⟩ : ∃ V, wr.alloc (.cells #[.int .i64 u.t, .int .i64 u.x, .int .i64 u.y, .int .i64 u.z, .int .i64 u.p, .int .i64 u.q, .int .i64 u.s] 28) = V := ⟨_, rfl⟩
        have gV : wr.grownBy V15 none := by rw [← hV]; exact World.grownBy_alloc _ _ _
        have BS : Hid (V15.heap[wr.heap.size]? = some (.cells #[.int .i64 u.t, .int .i64 u.x, .int .i64 u.y, .int .i64 u.z, .int .i64 u.p, .int .i64 u.q, .int .i64 u.s] 28 (0, 0))) := by show _; rw [← hV]; exact heap_alloc_new _ _
        rw [hV]
        have G5 := Lib.hid (grown_trans hG.out gV)
        clear hV gV c0 c1 c2 c3 c4 c5 c6 hG
        generalize wr.heap.size = sb at *
        have a3 := block_cell (block_at (row := none) BA4.out G5.out (by simp)) 3 _ rfl
        have hmf : ∀ (fn : Fn) (first cap : Array Value) (w : World), (Instr.makeFunc fn first cap).run Try.prog w = .ok (.func fn first cap) w := fun _ _ _ _ => rfl
        go_wp2_with fail
        refine (KC.out _ sb G5.out (block_cell BS.out 3 _ rfl)).mono ?_; rintro e9 w16 ⟨rfl, hg⟩
        have G6 := Lib.hid (grown_trans G5.out hg)
        clear hg a3
        go_wp2_with fail
        go_roundw
        case rel => exact ⟨k + 1, by go_num, HLT.out, G6⟩
        case measure => have := HLT.out; simp [intOf]; omega
      · obtain rfl : k = ss.length := by omega
        have G7 := Lib.hid (grown_trans G4.out hG.out)
        clear hG
        go_wp2_with fail
        refine (told_any _).mono ?_; rintro e w7 ⟨rfl, hg⟩
        replace G7 := Lib.hid (grown_trans G7.out hg)
        clear hg
        go_wp2_with fail
        go_ret
        exact ⟨by first | rfl | simp, G7.out⟩
  subst hE
  obtain ⟨hce, hgp, hc⟩ := K1.out rfl
  subst hc
  have tw := fill_twice (a := ⟨nm, sp, st, so, sc, ss, lo, lc, ls, to_, tc, ts⟩) hce hgp
  have H22 := H2.out
  simp only at H22 tw
  have hd2 : fillO ⟨nm, sp, st, s1, cs1, fill3 gap ss, l1, cl1, ls, t1, ct1, ts⟩ gap = (⟨nm, sp, st, s1, cs1, fill3 gap ss, l1, cl1, ls, t1, ct1, ts⟩, 0) := by
    have q := fill3_same (sok_of (chk_ok hce)) gap
    have okc : chkE ⟨nm, sp, st, s1, cs1, fill3 gap ss, l1, cl1, ls, t1, ct1, ts⟩ = 0 := fill3_ok hce gap
    unfold fillO
    rw [if_pos okc, if_pos hgp]
    simp only at q ⊢
    rw [q]
  rw [hd2] at H22
  simp only [Prod.mk.injEq] at H22
  obtain ⟨hd, hD⟩ := H22
  subst hd; subst hD
  have HS := sok_of (chk_ok hce)
  have KF : Hid (∀ m, ∃ p q s, smpD (fill3 gap ss) m = { smpD ss m with p := p, q := q, s := s } ∧ (p = (smpD ss m).p ∨ (smpD ss m).p < 0) ∧ (q = (smpD ss m).q ∨ (smpD ss m).q < 0) ∧ (s = (smpD ss m).s ∨ (smpD ss m).s < 0)) := fun m => by
    obtain ⟨p, q, s, h, _, _, _, b1, b2, b3⟩ := fill3_at HS gap m
    exact ⟨p, q, s, h, b1.imp_right (·.1), b2.imp_right (·.1), b3.imp_right (·.1)⟩
  have hxl : (fill3 gap ss).length = ss.length := fill3_len gap ss
  have hsl0 : (ss.length : Int) ≤ 20000 := (chk_ok hce).sl
  try simp only at Bx By Hx Hy
  clear tw hd2 HS H1 H2 K1 hgp hce
  obtain ⟨X, hX⟩ : ∃ X, fill3 gap ss = X := ⟨_, rfl⟩
  rw [hX] at Bx By Hx Hy KF hxl
  have HXL := Lib.hid hxl
  clear hX
  have f0 : ((0 : Int) == 0) = true := by simp
  have f2 : ((0 : Int) != 0) = false := by simp
  have f3 : ((X.length : Int) != (ss.length : Int)) = false := by rw [hxl]; simp
  clear hxl
  have x0 := block_cell Bx.out 0 _ rfl
  have x1 := block_cell Bx.out 1 _ rfl
  have x2 := block_cell Bx.out 2 _ rfl
  have x3 := block_cell Bx.out 3 _ rfl
  have x4 := block_cell Bx.out 4 _ rfl
  have x5 := block_cell Bx.out 5 _ rfl
  have y0 := block_cell By.out 0 _ rfl
  have y1 := block_cell By.out 1 _ rfl
  have y2 := block_cell By.out 2 _ rfl
  have y3 := block_cell By.out 3 _ rfl
  have y4 := block_cell By.out 4 _ rfl
  have y5 := block_cell By.out 5 _ rfl
  try simp only at x0 x1 x2 x3 x4 x5 y0 y1 y2 y3 y4 y5
  have a3 := block_cell Ba.out 3 _ rfl
  go_wp2_with fail
  refine (same_is (c := ⟨nm, sp, st, s1, cs1, X, l1, cl1, ls, t1, ct1, ts⟩) ⟨s1, cs1, l1, cl1, t1, ct1, rfl, Hx.out⟩ ⟨s2, cs2, l2, cl2, t2, ct2, rfl, Hy.out⟩).mono ?_; rintro e9 w5 ⟨rfl, hg⟩
  replace GB := Lib.hid (grown_trans GB.out hg)
  replace Ba := Lib.hid (block_at (row := none) Ba.out hg (by simp))
  replace Bx := Lib.hid (block_at (row := none) Bx.out hg (by simp))
  replace Hx := Lib.hid (Hx.out.grown hg)
  clear hg a3 x0 y0 x1 y1 x2 y2 x3 y3 x4 y4 x5 y5 By Hy
  have x3 := block_cell Bx.out 3 _ rfl
  have a3 := block_cell Ba.out 3 _ rfl
  try simp only at x3
  go_wp2_with fail
  clear x3 a3
  go_loopw [51] (fun iv wr => ∃ (k : Nat), iv = .int .i64 (k : Int) ∧ k ≤ ss.length ∧ Hid (w5.grownBy wr none)) (fun iv _ => ss.length - (intOf iv).toNat)
  case atStart => exact ⟨0, rfl, Nat.zero_le _, grown_refl _ _⟩
  case round =>
    obtain ⟨k, rfl, hk, hG⟩ := hrel
    by_cases hlt : k < ss.length
    · have hltx : k < X.length := by rw [HXL.out]; exact hlt
      obtain ⟨b, off, rfl⟩ := lv_so HA.out.hs (fun e => by have e2 : ss = [] := e; rw [e2] at hlt; simp at hlt)
      obtain ⟨c0, c1, c2, c3, c4, c5, c6⟩ := (HA.out.hs.grown (grown_trans GB.out hG.out)).cells _ rfl k hlt
      rw [← smpD_at hlt] at c0 c1 c2 c3 c4 c5 c6
      have hsx := (Hx.out.grown hG.out).hs
      simp only at hsx
      obtain ⟨b3, o3, hso3⟩ := lv_so hsx (fun e => by have e2 : X = [] := e; rw [e2] at hltx; simp at hltx)
      obtain ⟨d0, d1, d2, d3, d4, d5, d6⟩ := hsx.cells _ hso3 k hltx
      rw [← smpD_at hltx] at d0 d1 d2 d3 d4 d5 d6
      obtain ⟨p, q, s, hf, b1, b2, b3'⟩ := KF.out k
      rw [hf] at d0 d1 d2 d3 d4 d5 d6
      obtain ⟨u, hu⟩ : ∃ u, smpD ss k = u := ⟨_, rfl⟩
      rw [hu] at c0 c1 c2 c3 c4 c5 c6 d0 d1 d2 d3 d4 d5 d6 b1 b2 b3'
      simp only at c0 c1 c2 c3 c4 c5 c6 d0 d1 d2 d3 d4 d5 d6
      have e1 : (0 : Int) ≤ (k : Int) := by omega
      have e2 : (k : Int) < (ss.length : Int) := by omega
      have e2b : (k : Int) < (X.length : Int) := by omega
      have rk : IntKind.i64.wrap ((k : Int) + 1) = (k : Int) + 1 := IntWalk.i64_in _ (by omega)
      have HLT := Lib.hid hlt
      have x3 := block_cell (block_at (row := none) Bx.out hG.out (by simp)) 3 _ rfl
      try simp only at x3
      rw [hso3] at x3
      have ez : (u.z != u.z) = false := by simp
      have P1 : (decide (0 ≤ u.p) = true ∧ (p != u.p) = false) ∨ (decide (0 ≤ u.p) = false) := by
        by_cases h : 0 ≤ u.p
        · refine .inl ⟨by simpa using h, ?_⟩
          rcases b1 with h2 | h2
          · rw [h2]; simp
          · omega
        · exact .inr (by simpa using h)
      have P2 : (decide (0 ≤ u.q) = true ∧ (q != u.q) = false) ∨ (decide (0 ≤ u.q) = false) := by
        by_cases h : 0 ≤ u.q
        · refine .inl ⟨by simpa using h, ?_⟩
          rcases b2 with h2 | h2
          · rw [h2]; simp
          · omega
        · exact .inr (by simpa using h)
      have P3 : (decide (0 ≤ u.s) = true ∧ (s != u.s) = false) ∨ (decide (0 ≤ u.s) = false) := by
        by_cases h : 0 ≤ u.s
        · refine .inl ⟨by simpa using h, ?_⟩
          rcases b3' with h2 | h2
          · rw [h2]; simp
          · omega
        · exact .inr (by simpa using h)
      clear hk hlt hltx hsx hso3 hf hu b1 b2 b3'
      go_upto_region 9 with (fail)
      obtain ⟨V8, hV⟩ : ∃ V, wr.alloc (.cells #[.int .i64 u.t, .int .i64 u.x, .int .i64 u.y, .int .i64 u.z, .int .i64 u.p, .int .i64 u.q, .int .i64 u.s] 28) = V := ⟨_, rfl⟩
      have gV : wr.grownBy V8 none := by rw [← hV]; exact World.grownBy_alloc _ _ _
      have BS : Hid (V8.heap[wr.heap.size]? = some (.cells #[.int .i64 u.t, .int .i64 u.x, .int .i64 u.y, .int .i64 u.z, .int .i64 u.p, .int .i64 u.q, .int .i64 u.s] 28 (0, 0))) := by show _; rw [← hV]; exact heap_alloc_new _ _
      rw [hV]
      replace d0 := grown_cell gV d0; replace d1 := grown_cell gV d1; replace d2 := grown_cell gV d2; replace d3 := grown_cell gV d3; replace d4 := grown_cell gV d4; replace d5 := grown_cell gV d5; replace d6 := grown_cell gV d6
      replace x3 := grown_cell gV x3
      have G5 := Lib.hid (grown_trans hG.out gV)
      clear hV gV c0 c1 c2 c3 c4 c5 c6 hG
      generalize wr.heap.size = sb at *
      go_upto_region 10 with (fail)
      obtain ⟨V9, hV⟩ : ∃ V, V8.alloc (.cells #[.int .i64 u.t, .int .i64 u.x, .int .i64 u.y, .int .i64 u.z, .int .i64 p, .int .i64 q, .int .i64 s] 28) = V := ⟨_, rfl⟩
      have gV : V8.grownBy V9 none := by rw [← hV]; exact World.grownBy_alloc _ _ _
      have BT : Hid (V9.heap[V8.heap.size]? = some (.cells #[.int .i64 u.t, .int .i64 u.x, .int .i64 u.y, .int .i64 u.z, .int .i64 p, .int .i64 q, .int .i64 s] 28 (0, 0))) := by show _; rw [← hV]; exact heap_alloc_new _ _
      rw [hV]
      replace BS := Lib.hid (block_at (row := none) BS.out gV (by simp))
      replace G5 := Lib.hid (grown_trans G5.out gV)
      clear hV gV d0 d1 d2 d3 d4 d5 d6 x3
      generalize V8.heap.size = tb at *
      have m3 := block_cell BS.out 3 _ rfl
      have m4 := block_cell BS.out 4 _ rfl
      have m5 := block_cell BS.out 5 _ rfl
      have m6 := block_cell BS.out 6 _ rfl
      have n3 := block_cell BT.out 3 _ rfl
      have n4 := block_cell BT.out 4 _ rfl
      have n5 := block_cell BT.out 5 _ rfl
      have n6 := block_cell BT.out 6 _ rfl
      rcases P1 with ⟨p1, p2⟩ | p1 <;> rcases P2 with ⟨q1, q2⟩ | q1 <;> rcases P3 with ⟨r1, r2⟩ | r1
      all_goals
        go_wp2_with fail
        go_roundw
        case rel => exact ⟨k + 1, by go_num, HLT.out, G5⟩
        case measure => have := HLT.out; simp [intOf]; omega
    · obtain rfl : k = ss.length := by omega
      replace GB := Lib.hid (grown_trans GB.out hG.out)
      replace Ba := Lib.hid (block_at (row := none) Ba.out hG.out (by simp))
      replace Bx := Lib.hid (block_at (row := none) Bx.out hG.out (by simp))
      clear hG Hx KF f3 HXL hk hlt
      have a0 := block_cell Ba.out 0 _ rfl
      have a1 := block_cell Ba.out 1 _ rfl
      have a2 := block_cell Ba.out 2 _ rfl
      have a3 := block_cell Ba.out 3 _ rfl
      have a4 := block_cell Ba.out 4 _ rfl
      have a5 := block_cell Ba.out 5 _ rfl
      go_wp2_with fail
      refine (Level_any ⟨nm, sp, st, so, sc, ss, lo, lc, ls, to_, tc, ts⟩ width _ (HA.out.grown GB.out) HSC.out H3).mono ?_; rintro e9 w13 ⟨⟨v3, rfl, his⟩, hg⟩
      obtain ⟨s3, cs3, l3, cl3, t3, ct3, rfl, hat, hfar⟩ := his
      have HT := Lib.hid hat; have HF := Lib.hid hfar
      have HSZ : Hid (blkx < wr.heap.size) := lt_of_block Bx.out
      have NXA : Hid (w.heap.size ≠ blkx) := NXA0
      replace Ba := Lib.hid (block_at (row := none) Ba.out hg (by simp))
      replace Bx := Lib.hid (block_at (row := none) Bx.out hg (by simp))
      replace GB := Lib.hid (grown_trans GB.out hg)
      clear hat hfar hg a0 a1 a2 a3 a4 a5
      have z0 := block_cell Bx.out 0 _ rfl
      have z1 := block_cell Bx.out 1 _ rfl
      have z2 := block_cell Bx.out 2 _ rfl
      have z3 := block_cell Bx.out 3 _ rfl
      have z4 := block_cell Bx.out 4 _ rfl
      have z5 := block_cell Bx.out 5 _ rfl
      have y0 := block_free (k := 0) Bx.out
      have y1 := block_free (k := 1) Bx.out
      have y2 := block_free (k := 2) Bx.out
      have y3 := block_free (k := 3) Bx.out
      have y4 := block_free (k := 4) Bx.out
      have y5 := block_free (k := 5) Bx.out
      go_upto_region 14 with (fail)
      obtain ⟨V14, hV⟩ : ∃ V, ((((((w13.setCell ⟨blkx, 0, none⟩ (.string e.name)).setCell ⟨blkx, 1, none⟩ (.int .i64 e.sport)).setCell ⟨blkx, 2, none⟩ (.int .i64 e.start)).setCell ⟨blkx, 3, none⟩ (.slice s3 e.ss.length cs3)).setCell ⟨blkx, 4, none⟩ (.slice l3 e.ls.length cl3)).setCell ⟨blkx, 5, none⟩ (.slice t3 e.ts.length ct3)) = V := ⟨_, rfl⟩
      have G4 : Hid (w.grownBy V14 none) := by show _; rw [← hV]; exact grown_far (grown_far (grown_far (grown_far (grown_far (grown_far GB.out WBX _ _) WBX _ _) WBX _ _) WBX _ _) WBX _ _) WBX _ _
      have B4 : Hid (V14.heap[blkx]? = some (.cells #[.string e.name, .int .i64 e.sport, .int .i64 e.start, .slice s3 e.ss.length cs3, .slice l3 e.ls.length cl3, .slice t3 e.ts.length ct3] 26 (0, 0))) := by show _; rw [← hV]; exact block_set (block_set (block_set (block_set (block_set (block_set Bx.out _) _) _) _) _) _
      have BA4 : Hid (V14.heap[w.heap.size]? = some (.cells #[.string nm, .int .i64 sp, .int .i64 st, .slice so ss.length sc, .slice lo ls.length lc, .slice to_ ts.length tc] 26 (0, 0))) := by show _; rw [← hV]; exact blk_far4 (blk_far4 (blk_far4 (blk_far4 (blk_far4 (blk_far4 Ba.out NXA.out _ _) NXA.out _ _) NXA.out _ _) NXA.out _ _) NXA.out _ _) NXA.out _ _
      have H4 : Hid (ActAt V14 ⟨e.name, e.sport, e.start, s3, cs3, e.ss, l3, cl3, e.ls, t3, ct3, e.ts⟩) := by
        show _
        rw [← hV]
        have hs := HSZ.out
        refine HT.out.far HF.out (fun p hp => ?_)
        iterate 6 rw [World.cell?_setCell_other _ _ _ _ (fun e => by subst e; simp at hp; omega)]
      rw [hV]
      clear hV z0 z1 z2 z3 z4 z5 y0 y1 y2 y3 y4 y5 Bx HT HF HSZ GB Ba
      by_cases hF : F = 0
      case neg =>
        have f1 : (F != 0) = true := by simpa using hF
        clear hF
        go_wp2_with fail
        refine (told_any _).mono ?_; rintro e w7 ⟨rfl, hg⟩
        replace G4 := Lib.hid (grown_trans G4.out hg)
        clear hg
        go_wp2_with fail
        go_ret
        exact ⟨by first | rfl | simp, G4.out⟩
      subst hF
      obtain ⟨wd, hwd, hw50, hce2, he⟩ := K3.out rfl
      subst he
      simp only at B4 H4
      subst hwd
      obtain ⟨LV, hLV⟩ : ∃ L, lvA ss wd ss.length = L := ⟨_, rfl⟩
      have HLV := Lib.hid hLV
      have hll : LV.length = ss.length := by rw [← hLV]; exact lv_len ss wd ss.length
      rw [hLV] at B4 H4
      rw [hll] at B4
      have HLL := Lib.hid hll
      have hsl : (ss.length : Int) ≤ 20000 := (chk_ok hce2).sl
      have lne : ((ss.length : Int) != (ss.length : Int)) = false := by simp
      have lne2 : ((LV.length : Int) != (ss.length : Int)) = false := by rw [hll]; simp
      have x3 := block_cell B4.out 3 _ rfl
      have a3 := block_cell BA4.out 3 _ rfl
      try simp only at x3
      clear hLV hll hce2
      go_wp2_with fail
      clear x3 a3
      go_loopw [122] (fun iv wr => ∃ (k : Nat), iv = .int .i64 (k : Int) ∧ k ≤ ss.length ∧ Hid (V14.grownBy wr none)) (fun iv _ => ss.length - (intOf iv).toNat)
      case atStart => exact ⟨0, rfl, Nat.zero_le _, grown_refl _ _⟩
      case round =>
        obtain ⟨k, rfl, hk, hG⟩ := hrel
        by_cases hlt : k < ss.length
        · obtain ⟨b, off, rfl⟩ := lv_so HA.out.hs (fun e => by have e2 : ss = [] := e; rw [e2] at hlt; simp at hlt)
          have hltv : k < LV.length := by rw [HLL.out]; exact hlt
          have hs3 := (H4.out.grown hG.out).hs
          simp only at hs3
          obtain ⟨b3, o3, hso3⟩ := lv_so hs3 (fun e => by have e2 : LV = [] := e; rw [e2] at hltv; simp at hltv)
          obtain ⟨c0, c1, c2, c3, c4, c5, c6⟩ := hs3.cells _ hso3 k hltv
          rw [← smpD_at hltv] at c0 c1 c2 c3 c4 c5 c6
          simp only at c0 c1 c2 c3 c4 c5 c6
          obtain ⟨hw0, hw1, hw2, hw3, hw4⟩ := win_len (A := ss) (wd := wd) hlt
          have HEX := Lib.hid (lv_has (wd := wd) hlt)
          rw [HLV.out] at HEX
          obtain ⟨f, hf⟩ : ∃ f, frW wd k = f := ⟨_, rfl⟩
          obtain ⟨t, ht⟩ : ∃ t, toW ss.length wd k = t := ⟨_, rfl⟩
          rw [hf, ht] at hw0
          rw [hf] at hw1
          rw [ht] at hw2 hw3
          rw [hf, ht] at hw4
          have hsc := HSC.out
          try simp only at hsc
          have mx : max (0 : Int) ((k : Int) - (wd : Int)) = (f : Int) := by unfold frW at hf; omega
          have mn : min (ss.length : Int) ((k : Int) + (wd : Int) + 1) = (t : Int) := by unfold toW at ht; omega
          have q1 : IntKind.i64.wrap ((k : Int) - (wd : Int)) = (k : Int) - (wd : Int) := IntWalk.i64_in _ (by omega)
          have q2 : IntKind.i64.wrap ((k : Int) + (wd : Int)) = (k : Int) + (wd : Int) := IntWalk.i64_in _ (by omega)
          have q3 : IntKind.i64.wrap ((k : Int) + (wd : Int) + 1) = (k : Int) + (wd : Int) + 1 := IntWalk.i64_in _ (by omega)
          have rk : IntKind.i64.wrap ((k : Int) + 1) = (k : Int) + 1 := IntWalk.i64_in _ (by omega)
          obtain ⟨u, hu⟩ : ∃ u, smpD LV k = u := ⟨_, rfl⟩
          rw [hu] at c0 c1 c2 c3 c4 c5 c6 HEX
          have KC : Hid (∀ (V : World) (sb : Nat), V14.grownBy V none → V.cell? ⟨sb, 3, none⟩ = some (.int .i64 u.z) → Calls Try.prog 38 #[.slice (some ⟨b, off + f * 7, none⟩) (t - f) (sc - f), .func (.func 39) #[] #[.pointer (some ⟨sb, 0, none⟩)]] V fun e w' => e = .returned (.bool true) ∧ V.grownBy w' none) := fun V sb hV hz => by
            have q := containsZ_is b (off + f * 7) (sc - f) (winL ss wd k) (by rw [hw0]; omega) u.z HEX.out sb V (by unfold winL; rw [hf, ht]; exact smps_win (HA.out.hs.grown (grown_trans G4.out hV)) f (t - f)) hz
            rw [hw0] at q
            exact q
          have HLT := Lib.hid hlt
          have e1 : (0 : Int) ≤ (k : Int) := by omega
          have e2 : (k : Int) < (ss.length : Int) := by omega
          have e2b : (k : Int) < (LV.length : Int) := by omega
          have e3 : (0 : Int) ≤ (f : Int) := by omega
          have e4 : (f : Int) ≤ (t : Int) := by omega
          have e5 : (t : Int) ≤ (sc : Int) := by omega
          have e6 : f ≤ t := by omega
          have e7 : t ≤ sc := by omega
          have e8 : ¬ sc = f := by omega
          subst hso3
          clear hw0 hw1 hw2 hw3 hw4 hf ht hsc hk hlt hltv hs3 hu
          go_upto_region 21 with (fail)
          obtain ⟨V15, hV⟩ : ∃ V, wr.alloc (.cells #[.int .i64 u.t, .int .i64 u.x, .int .i64 u.y, .int .i64 u.z, .int .i64 u.p, .int .i64 u.q, .int .i64 u.s] 28) = V := ⟨_, rfl⟩
          have gV : wr.grownBy V15 none := by rw [← hV]; exact World.grownBy_alloc _ _ _
          have BS : Hid (V15.heap[wr.heap.size]? = some (.cells #[.int .i64 u.t, .int .i64 u.x, .int .i64 u.y, .int .i64 u.z, .int .i64 u.p, .int .i64 u.q, .int .i64 u.s] 28 (0, 0))) := by show _; rw [← hV]; exact heap_alloc_new _ _
          rw [hV]
          have G5 := Lib.hid (grown_trans hG.out gV)
          clear hV gV c0 c1 c2 c3 c4 c5 c6 hG
          generalize wr.heap.size = sb at *
          have a3 := block_cell (block_at (row := none) BA4.out G5.out (by simp)) 3 _ rfl
          have hmf : ∀ (fn : Fn) (first cap : Array Value) (w : World), (Instr.makeFunc fn first cap).run Try.prog w = .ok (.func fn first cap) w := fun _ _ _ _ => rfl
          go_wp2_with fail
          refine (KC.out _ sb G5.out (block_cell BS.out 3 _ rfl)).mono ?_; rintro e9 w16 ⟨rfl, hg⟩
          have G6 := Lib.hid (grown_trans G5.out hg)
          clear hg a3
          go_wp2_with fail
          go_roundw
          case rel => exact ⟨k + 1, by go_num, HLT.out, G6⟩
          case measure => have := HLT.out; simp [intOf]; omega
        · obtain rfl : k = ss.length := by omega
          have G7 := Lib.hid (grown_trans G4.out hG.out)
          clear hG
          go_wp2_with fail
          refine (told_any _).mono ?_; rintro e w7 ⟨rfl, hg⟩
          replace G7 := Lib.hid (grown_trans G7.out hg)
          clear hg
          go_wp2_with fail
          go_ret
          exact ⟨by first | rfl | simp, G7.out⟩
end Go.Proofs.Ytgkhhfojioepgaa
