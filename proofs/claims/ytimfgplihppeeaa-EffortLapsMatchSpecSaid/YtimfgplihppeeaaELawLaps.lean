/- For all activities and numbers, EveryWay and EveryTime return what the reference returns, and their laps cover the activity, one behind the other: the walk. -/
import Derived.Test.YtimfgplihppeeaaEREvery
import Derived.Test.YtimfgplihppeeaaETold
namespace Go.Proofs.Ytimfgplihppeeaa
open Go.RowKit

theorem flat_at3 {α β : Type} (f : α → List β) (s : Nat) (hf : ∀ x, (f x).length = s) : ∀ (L : List α) (j i : Nat) (hj : j < L.length), i < s → (L.flatMap f)[j * s + i]? = (f L[j])[i]?
  | [], j, _, hj, _ => absurd hj (by simp)
  | x :: r, 0, i, _, hi => by
    rw [List.flatMap_cons, Nat.zero_mul, Nat.zero_add, List.getElem?_append_left (by rw [hf]; exact hi)]
    rfl
  | x :: r, j + 1, i, hj, hi => by
    have h := flat_at3 f s hf r j i (by simpa using hj) hi
    rw [List.flatMap_cons, List.getElem?_append_right (by rw [hf, Nat.succ_mul]; omega), hf, show (j + 1) * s + i - s = j * s + i by rw [Nat.succ_mul]; omega, h]
    rfl
theorem own_laps {w : World} {base : Nat} {v : Value} {L : List (Int × Int)} (h : w.ownsRow base 64 3 v L.length (lapsVs L)) :
    ∃ ao cap, v = .slice ao L.length cap ∧ ∀ j (hj : j < L.length), ∃ g, ao = some ⟨g, 0, none⟩ ∧ w.cell? ⟨g, j * 3, none⟩ = some (.int .i64 L[j].1) ∧ w.cell? ⟨g, j * 3 + 1, none⟩ = some (.int .i64 L[j].2) ∧ w.cell? ⟨g, j * 3 + 2, none⟩ = some (.string ⟨#[]⟩) := by
  rcases h.2 with ⟨hv, h0⟩ | ⟨g, cap, cur, hv, hb, hg, rest⟩
  · exact ⟨none, 0, by rw [hv, h0], fun j hj => absurd hj (by omega)⟩
  · refine ⟨some ⟨g, 0, none⟩, cap, hv, fun j hj => ⟨g, rfl, ?_⟩⟩
    have hc : ∀ (i : Nat) (u : Value), i < 3 → (lapCs L[j])[i]? = some u → w.cell? ⟨g, j * 3 + i, none⟩ = some u := fun i u hi hu => by
      have q := h.cells (g := g) (by rw [hv]; rfl) (j * 3 + i) u (by unfold lapsVs; rw [flat_at3 lapCs 3 (fun _ => rfl) L j i hj hi]; exact hu)
      have e : (⟨g, 0, none⟩ : Addr).add (j * 3 + i) = ⟨g, j * 3 + i, none⟩ := by unfold Addr.add; split <;> simp_all
      rw [e] at q; exact q
    exact ⟨hc 0 _ (by omega) rfl, hc 1 _ (by omega) rfl, hc 2 _ (by omega) rfl⟩

set_option maxHeartbeats 1600000 in
theorem equal_laps {w : World} {base1 base2 : Nat} {v1 v2 : Value} {L : List (Int × Int)} (h1 : w.ownsRow base1 64 3 v1 L.length (lapsVs L)) (h2 : w.ownsRow base2 64 3 v2 L.length (lapsVs L)) (hn : L.length ≤ 200) :
    Calls Try.prog 43 #[v1, v2] w fun e w' => e = .returned (.bool true) ∧ w.grownBy w' none := by
  obtain ⟨a1, c1, rfl, q1⟩ := own_laps h1
  obtain ⟨a2, c2, rfl, q2⟩ := own_laps h2
  have Q1 := Lib.hid q1; have Q2 := Lib.hid q2
  clear h1 h2 q1 q2
  go_enter Try.func43, Try.ntmps43
  go_wp2_with fail
  go_loopw [13] (fun iv wr => ∃ k : Nat, k ≤ L.length ∧ iv = .int .i64 k ∧ Hid (w.grownBy wr none)) (fun iv _ => L.length - (intOf iv).toNat)
  case atStart => exact ⟨0, Nat.zero_le _, rfl, grown_refl _ _⟩
  case round =>
    obtain ⟨k, hk, rfl, hg⟩ := hrel
    by_cases hlt : k < L.length
    · obtain ⟨g1, rfl, x0, x1, x2⟩ := Q1.out k hlt
      obtain ⟨g2, rfl, y0, y1, y2⟩ := Q2.out k hlt
      replace x0 := grown_cell hg.out x0; replace x1 := grown_cell hg.out x1; replace x2 := grown_cell hg.out x2
      replace y0 := grown_cell hg.out y0; replace y1 := grown_cell hg.out y1; replace y2 := grown_cell hg.out y2
      generalize L[k] = h at *
      obtain ⟨z0, z1⟩ := h
      simp only at x0 x1 x2 y0 y1 y2
      go_wp2_with fail
      go_quiet (fail)
      go_wp2_with fail
      go_roundw
      case rel => exact ⟨k + 1, by omega, by go_num, grown_trans hg.out (grown_drewN _ _ _)⟩
      case measure => simp [intOf]; omega
    · go_wp2_with fail
      go_ret
      exact ⟨rfl, hg.out⟩

theorem lapsOut_facts {L R : List (Int × Int)} {E : Int} (h : lapsOut L = (R, E)) (hc : Chain 0 L) : Chain 0 R ∧ R.length ≤ 200 := by
  unfold lapsOut at h
  split at h
  · simp only [Prod.mk.injEq] at h
    obtain ⟨rfl, _⟩ := h
    exact ⟨hc, by assumption⟩
  · simp only [Prod.mk.injEq] at h
    obtain ⟨rfl, _⟩ := h
    exact ⟨trivial, by simp⟩
theorem way_facts {a : Act} {way : Int} {R : List (Int × Int)} {E : Int} (h : everyWayOut a way = (R, E)) : Chain 0 R ∧ R.length ≤ 200 := by
  unfold everyWayOut at h
  split at h
  · split at h
    · exact lapsOut_facts h (refL_chain _ _ _ _ _ (Int.le_refl _))
    · simp only [Prod.mk.injEq] at h
      obtain ⟨rfl, _⟩ := h
      exact ⟨trivial, by simp⟩
  · simp only [Prod.mk.injEq] at h
    obtain ⟨rfl, _⟩ := h
    exact ⟨trivial, by simp⟩
theorem time_facts {a : Act} {s : Int} {R : List (Int × Int)} {E : Int} (h : everyTimeOut a s = (R, E)) : Chain 0 R ∧ R.length ≤ 200 := by
  unfold everyTimeOut at h
  split at h
  · split at h
    · rename_i h1
      exact lapsOut_facts h (refT_chain h1.1 _ _ (Nat.le_refl _))
    · simp only [Prod.mk.injEq] at h
      obtain ⟨rfl, _⟩ := h
      exact ⟨trivial, by simp⟩
  · simp only [Prod.mk.injEq] at h
    obtain ⟨rfl, _⟩ := h
    exact ⟨trivial, by simp⟩

set_option maxRecDepth 100000 in
set_option maxHeartbeats 3200000 in
theorem laps_law (a : Act) (way secs : Int) (w : World) (ha : ActAt w a) (hc : a.ss.length ≤ a.sc) :
    Calls Try.prog 10 #[a.val, .int .i64 way, .int .i64 secs] w fun e w' => e = .returned (.bool true) ∧ w.grownBy w' none := by
  rcases hwe : everyWayOut a way with ⟨L1, E1⟩
  rcases hte : everyTimeOut a secs with ⟨L2, E2⟩
  obtain ⟨hc1, hn1⟩ := way_facts hwe
  obtain ⟨hc2, hn2⟩ := time_facts hte
  have HWE := Lib.hid hwe; have HTE := Lib.hid hte; have HA := Lib.hid ha; have HN1 := Lib.hid hn1; have HN2 := Lib.hid hn2; have HC1 := Lib.hid hc1; have HC2 := Lib.hid hc2
  clear hwe hte ha hc hn1 hn2 hc1 hc2
  obtain ⟨nm, sp, st, so, sc, ss, lo, lc, ls, to_, tc, ts⟩ := a
  simp only [Act.val]
  go_enter Try.func10, Try.ntmps10
  have GB : Hid (w.grownBy (w.alloc (.cells #[.string nm, .int .i64 sp, .int .i64 st, .slice so ss.length sc, .slice lo ls.length lc, .slice to_ ts.length tc] 26)) none) := World.grownBy_alloc _ _ _
  go_wp2_with fail
  refine (EveryWay_any ⟨nm, sp, st, so, sc, ss, lo, lc, ls, to_, tc, ts⟩ way _ (HA.out.grown GB.out) HWE).mono ?_; rintro x w1 ⟨⟨v1, rfl, ho1⟩, hg1⟩
  have HO1 := Lib.hid ho1
  have K := Lib.hid hg1
  clear ho1 hg1
  have a0 : w1.cell? ⟨w.heap.size, 0, none⟩ = some (.string nm) := grown_cell K.out (by go_simp)
  have a1 : w1.cell? ⟨w.heap.size, 1, none⟩ = some (.int .i64 sp) := grown_cell K.out (by go_simp)
  have a2 : w1.cell? ⟨w.heap.size, 2, none⟩ = some (.int .i64 st) := grown_cell K.out (by go_simp)
  have a3 : w1.cell? ⟨w.heap.size, 3, none⟩ = some (.slice so ss.length sc) := grown_cell K.out (by go_simp)
  have a4 : w1.cell? ⟨w.heap.size, 4, none⟩ = some (.slice lo ls.length lc) := grown_cell K.out (by go_simp)
  have a5 : w1.cell? ⟨w.heap.size, 5, none⟩ = some (.slice to_ ts.length tc) := grown_cell K.out (by go_simp)
  go_wp2_with fail
  refine (REveryWay_any ⟨nm, sp, st, so, sc, ss, lo, lc, ls, to_, tc, ts⟩ way _ (HA.out.grown (grown_trans GB.out K.out)) HWE).mono ?_; rintro x w2 ⟨⟨v2, rfl, ho2⟩, hg2⟩
  have HO2 := Lib.hid ho2
  replace HO1 := Lib.hid (HO1.out.kept hg2 (Classical.em _))
  replace K := Lib.hid (grown_trans K.out hg2)
  clear a0 a1 a2 a3 a4 a5 ho2 hg2
  have a0 : w2.cell? ⟨w.heap.size, 0, none⟩ = some (.string nm) := grown_cell K.out (by go_simp)
  have a1 : w2.cell? ⟨w.heap.size, 1, none⟩ = some (.int .i64 sp) := grown_cell K.out (by go_simp)
  have a2 : w2.cell? ⟨w.heap.size, 2, none⟩ = some (.int .i64 st) := grown_cell K.out (by go_simp)
  have a3 : w2.cell? ⟨w.heap.size, 3, none⟩ = some (.slice so ss.length sc) := grown_cell K.out (by go_simp)
  have a4 : w2.cell? ⟨w.heap.size, 4, none⟩ = some (.slice lo ls.length lc) := grown_cell K.out (by go_simp)
  have a5 : w2.cell? ⟨w.heap.size, 5, none⟩ = some (.slice to_ ts.length tc) := grown_cell K.out (by go_simp)
  go_wp2_with fail
  refine (EveryTime_any ⟨nm, sp, st, so, sc, ss, lo, lc, ls, to_, tc, ts⟩ secs _ (HA.out.grown (grown_trans GB.out K.out)) HTE).mono ?_; rintro x w3 ⟨⟨v3, rfl, ho3⟩, hg3⟩
  have HO3 := Lib.hid ho3
  replace HO1 := Lib.hid (HO1.out.kept hg3 (Classical.em _))
  replace HO2 := Lib.hid (HO2.out.kept hg3 (Classical.em _))
  replace K := Lib.hid (grown_trans K.out hg3)
  clear a0 a1 a2 a3 a4 a5 ho3 hg3
  have a0 : w3.cell? ⟨w.heap.size, 0, none⟩ = some (.string nm) := grown_cell K.out (by go_simp)
  have a1 : w3.cell? ⟨w.heap.size, 1, none⟩ = some (.int .i64 sp) := grown_cell K.out (by go_simp)
  have a2 : w3.cell? ⟨w.heap.size, 2, none⟩ = some (.int .i64 st) := grown_cell K.out (by go_simp)
  have a3 : w3.cell? ⟨w.heap.size, 3, none⟩ = some (.slice so ss.length sc) := grown_cell K.out (by go_simp)
  have a4 : w3.cell? ⟨w.heap.size, 4, none⟩ = some (.slice lo ls.length lc) := grown_cell K.out (by go_simp)
  have a5 : w3.cell? ⟨w.heap.size, 5, none⟩ = some (.slice to_ ts.length tc) := grown_cell K.out (by go_simp)
  go_wp2_with fail
  refine (REveryTime_any ⟨nm, sp, st, so, sc, ss, lo, lc, ls, to_, tc, ts⟩ secs _ (HA.out.grown (grown_trans GB.out K.out)) HTE).mono ?_; rintro x w4 ⟨⟨v4, rfl, ho4⟩, hg4⟩
  have HO4 := Lib.hid ho4
  replace HO1 := Lib.hid (HO1.out.kept hg4 (Classical.em _))
  replace HO2 := Lib.hid (HO2.out.kept hg4 (Classical.em _))
  replace HO3 := Lib.hid (HO3.out.kept hg4 (Classical.em _))
  replace K := Lib.hid (grown_trans K.out hg4)
  clear a0 a1 a2 a3 a4 a5 ho4 hg4
  go_wp2_with fail
  refine (equal_laps HO1.out HO2.out HN1.out).mono ?_; rintro x w5 ⟨rfl, hg5⟩
  replace HO1 := Lib.hid (HO1.out.kept hg5 (Classical.em _))
  replace HO3 := Lib.hid (HO3.out.kept hg5 (Classical.em _))
  replace HO4 := Lib.hid (HO4.out.kept hg5 (Classical.em _))
  replace K := Lib.hid (grown_trans K.out hg5)
  clear hg5 HO2
  go_wp2_with fail
  refine (equal_laps HO3.out HO4.out HN2.out).mono ?_; rintro x w6 ⟨rfl, hg6⟩
  replace HO1 := Lib.hid (HO1.out.kept hg6 (Classical.em _))
  replace HO3 := Lib.hid (HO3.out.kept hg6 (Classical.em _))
  replace K := Lib.hid (grown_trans K.out hg6)
  clear hg6 HO4
  obtain ⟨ao1, cap1, rfl, q1⟩ := own_laps HO1.out
  obtain ⟨ao3, cap3, rfl, q3⟩ := own_laps HO3.out
  have Q1 := Lib.hid q1; have Q3 := Lib.hid q3
  clear q1 q3 HO1 HO3
  go_wp2_with fail
  obtain ⟨w7, hw7⟩ : ∃ w7, w7 = w6.alloc (.cells #[.slice ao1 L1.length cap1, .slice ao3 L2.length cap3] 23) := ⟨_, rfl⟩
  have K7 : Hid (w6.grownBy w7 none) := by rw [hw7]; exact World.grownBy_alloc _ _ _
  have s0 : w7.cell? ⟨w6.heap.size, 0, none⟩ = some (.slice ao1 L1.length cap1) := by rw [hw7]; simp
  have s1 : w7.cell? ⟨w6.heap.size, 1, none⟩ = some (.slice ao3 L2.length cap3) := by rw [hw7]; simp
  rw [← hw7]
  have S0 := Lib.hid s0; have S1 := Lib.hid s1
  clear hw7 s0 s1
  go_loopw [68] (fun iv wr => ∃ j : Nat, j ≤ 2 ∧ iv = .int .i64 j ∧ Hid (w7.grownBy wr none)) (fun iv _ => 2 - (intOf iv).toNat)
  case atStart => exact ⟨0, by omega, rfl, grown_refl _ _⟩
  case round =>
    obtain ⟨j, hj, rfl, hg⟩ := hrel
    have HG := Lib.hid hg.out
    have hcase : j = 0 ∨ j = 1 ∨ j = 2 := by omega
    rcases hcase with rfl | rfl | rfl
    · have c0 := grown_cell HG.out S0.out
      clear hg
      have hn2 : L1.length ≤ 200 := HN1.out
      have HC0 : Hid (Chain 0 (L1.drop 0)) := HC1.out
      go_wp2_with fail
      go_loopw [17, 74] (fun av iv wt => ∃ (k : Nat) (t : Int), av = .int .i64 t ∧ iv = .int .i64 k ∧ k ≤ L1.length ∧ Hid (Chain t (L1.drop k)) ∧ Hid (w7.grownBy wt none))
        (fun _ iv _ => L1.length - (intOf iv).toNat)
      case atStart => exact ⟨0, 0, rfl, rfl, Nat.zero_le _, HC0.out, HG.out⟩
      case round =>
        obtain ⟨k, t, rfl, rfl, hk, hch, hg2⟩ := hrel
        by_cases hlt : k < L1.length
        · obtain ⟨g1, rfl, x0, x1, x2⟩ := Q1.out k hlt
          have GG := Lib.hid (grown_trans K7.out hg2.out)
          replace x0 := grown_cell GG.out x0; replace x1 := grown_cell GG.out x1; replace x2 := grown_cell GG.out x2
          have hc := hch.out
          rw [List.drop_eq_getElem_cons hlt] at hc
          generalize L1[k] = p at *
          obtain ⟨pa, pb⟩ := p
          obtain ⟨hc1, hc2, hc3⟩ := hc
          simp only at x0 x1 x2
          subst hc1
          have HCH := Lib.hid hc3
          have nle : ¬ pb ≤ pa := by omega
          have HGA : Hid (w7.grownBy (wr.alloc (.cells #[.int .i64 pa, .int .i64 pb, .string ⟨#[]⟩] 64)) none) := grown_trans hg2.out (World.grownBy_alloc _ _ _)
          clear hch hc3 hg2
          go_wp2_with fail
          go_roundw
          case rel => exact ⟨k + 1, pb, rfl, by go_num, by omega, HCH.out, HGA.out⟩
          case measure => simp [intOf]; omega
        · have HG3 := Lib.hid hg2.out
          clear hch hg2
          go_wp2_with fail
          go_roundw
          case rel => exact ⟨1, by omega, by go_num, HG3.out⟩
          case measure => simp [intOf]
    · have c0 := grown_cell HG.out S1.out
      clear hg
      have hn2 : L2.length ≤ 200 := HN2.out
      have HC0 : Hid (Chain 0 (L2.drop 0)) := HC2.out
      go_wp2_with fail
      go_loopw [17, 74] (fun av iv wt => ∃ (k : Nat) (t : Int), av = .int .i64 t ∧ iv = .int .i64 k ∧ k ≤ L2.length ∧ Hid (Chain t (L2.drop k)) ∧ Hid (w7.grownBy wt none))
        (fun _ iv _ => L2.length - (intOf iv).toNat)
      case atStart => exact ⟨0, 0, rfl, rfl, Nat.zero_le _, HC0.out, HG.out⟩
      case round =>
        obtain ⟨k, t, rfl, rfl, hk, hch, hg2⟩ := hrel
        by_cases hlt : k < L2.length
        · obtain ⟨g1, rfl, x0, x1, x2⟩ := Q3.out k hlt
          have GG := Lib.hid (grown_trans K7.out hg2.out)
          replace x0 := grown_cell GG.out x0; replace x1 := grown_cell GG.out x1; replace x2 := grown_cell GG.out x2
          have hc := hch.out
          rw [List.drop_eq_getElem_cons hlt] at hc
          generalize L2[k] = p at *
          obtain ⟨pa, pb⟩ := p
          obtain ⟨hc1, hc2, hc3⟩ := hc
          simp only at x0 x1 x2
          subst hc1
          have HCH := Lib.hid hc3
          have nle : ¬ pb ≤ pa := by omega
          have HGA : Hid (w7.grownBy (wr.alloc (.cells #[.int .i64 pa, .int .i64 pb, .string ⟨#[]⟩] 64)) none) := grown_trans hg2.out (World.grownBy_alloc _ _ _)
          clear hch hc3 hg2
          go_wp2_with fail
          go_roundw
          case rel => exact ⟨k + 1, pb, rfl, by go_num, by omega, HCH.out, HGA.out⟩
          case measure => simp [intOf]; omega
        · have HG3 := Lib.hid hg2.out
          clear hch hg2
          go_wp2_with fail
          go_roundw
          case rel => exact ⟨2, by omega, by go_num, HG3.out⟩
          case measure => simp [intOf]
    · clear hg
      go_wp2_with fail
      refine (etold_any _).mono ?_; rintro x w8 ⟨rfl, hg8⟩
      have KF := Lib.hid (grown_trans (grown_trans (grown_trans (grown_trans GB.out K.out) K7.out) HG.out) hg8)
      clear hg8
      go_wp2_with fail
      go_ret
      exact ⟨by first | rfl | simp, KF.out⟩

end Go.Proofs.Ytimfgplihppeeaa
