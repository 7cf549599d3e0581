/- clone, and the reference's copied, for any activity: the samples of the result are a row of its own. -/
import Derived.Test.YtgkhhfojioepgaaBaseE
import Derived.Test.YtgkhhfojioepgaaBaseD
import Derived.Deep.CutBlock
import Derived.Deep.DeepCutAuto
namespace Go.Proofs.Ytgkhhfojioepgaa
open Go.RowKit
set_option linter.unusedSimpArgs false
set_option linter.unusedVariables false

attribute [local go_sem] Oper.semAt_some

/-- An activity whose samples are a row of its own, and lie apart from its laps and tags. -/
def ActOwn (B : Nat) (w : World) (v : Value) (c : Act) : Prop := ∃ so sc lo lc to_ tc, v = (⟨c.name, c.sport, c.start, so, sc, c.ss, lo, lc, c.ls, to_, tc, c.ts⟩ : Act).val ∧ ActAt w ⟨c.name, c.sport, c.start, so, sc, c.ss, lo, lc, c.ls, to_, tc, c.ts⟩ ∧ ActFar ⟨c.name, c.sport, c.start, so, sc, c.ss, lo, lc, c.ls, to_, tc, c.ts⟩ B ∧ (∃ b0, B ≤ b0 ∧ w.ownsRow b0 28 7 (.slice so c.ss.length sc) c.ss.length (smpRw c.ss)) ∧ (∀ p q, so = some p → lo = some q → p.block ≠ q.block) ∧ (∀ p q, so = some p → to_ = some q → p.block ≠ q.block)
theorem rows_apart {w : World} {b1 b2 e1 e2 s1 s2 n1 n2 c1 c2 : Nat} {ao1 ao2 : Option Addr} {xs ys : List Value} (h1 : w.ownsRow b1 e1 s1 (.slice ao1 n1 c1) n1 xs) (h2 : w.ownsRow b2 e2 s2 (.slice ao2 n2 c2) n2 ys) (he : e1 ≠ e2) : ∀ p q, ao1 = some p → ao2 = some q → p.block ≠ q.block := fun p q ep eq hpq => by
  rcases h1.2 with ⟨hv, _⟩ | ⟨g, c, cur, hv, _, hg, _⟩
  · injection hv with e _ _; rw [ep] at e; cases e
  · rcases h2.2 with ⟨hv2, _⟩ | ⟨g2, c2, cur2, hv2, _, hg2, _⟩
    · injection hv2 with e _ _; rw [eq] at e; cases e
    · injection hv with e _ _; injection hv2 with f _ _
      rw [ep] at e; rw [eq] at f
      injection e with e; injection f with f
      rw [e, f] at hpq
      simp only at hpq
      rw [hpq, hg2] at hg
      injection hg with hg; injection hg with _ hg
      exact he hg.symm

set_option maxRecDepth 100000 in
set_option maxHeartbeats 3200000 in
theorem clone_own (a : Act) (n1 : a.ss.length ≤ 20000) (n2 : a.ls.length ≤ 20000) (n3 : a.ts.length ≤ 20000) (w : World) (ha : ActAt w a) :
    Calls Try.prog 62 #[a.val] w fun e w' => (∃ v, e = .returned v ∧ ActOwn w.heap.size w' v a) ∧ w.grownBy w' none := by
  obtain ⟨nm, sp, st, so, sc, ss, lo, lc, ls, to_, tc, ts⟩ := a
  simp only [Act.val] at *
  have HA := Lib.hid ha
  have N1 := Lib.hid n1; have N2 := Lib.hid n2; have N3 := Lib.hid n3
  have M0 := Lib.hid (ClB.new w #[.string nm, .int .i64 sp, .int .i64 st, .slice so ss.length sc, .slice lo ls.length lc, .slice to_ ts.length tc] #[.string ⟨#[]⟩, .int .i64 0, .int .i64 0, .slice none 0 0, .slice none 0 0, .slice none 0 0])
  clear ha n1 n2 n3
  go_enter Try.func62, Try.ntmps62
  go_wp2_with fail
  obtain ⟨W, hW⟩ : ∃ W, ((w.alloc (.cells #[.string nm, .int .i64 sp, .int .i64 st, .slice so ss.length sc, .slice lo ls.length lc, .slice to_ ts.length tc] 26)).alloc (.cells #[.string ⟨#[]⟩, .int .i64 0, .int .i64 0, .slice none 0 0, .slice none 0 0, .slice none 0 0] 26)) = W := ⟨_, rfl⟩
  rw [hW] at M0 ⊢
  clear hW
  have M1 : Hid (ClB w #[.string nm, .int .i64 sp, .int .i64 st, .slice so ss.length sc, .slice lo ls.length lc, .slice to_ ts.length tc] #[.string ⟨#[]⟩, .int .i64 0, .int .i64 0, .slice none 0 0, .slice none 0 0, .slice none 0 0] W.drew) := M0.out.grown (grown_drewN W none 1)
  refine region_late (lateK (fun _ => True) [(10, ⟨w.heap.size, 3, none⟩, .slice so ss.length sc), (12, ⟨w.heap.size, 4, none⟩, .slice lo ls.length lc), (14, ⟨w.heap.size, 5, none⟩, .slice to_ ts.length tc)]) (by kernel_rfl) ⟨fun _ => block_cell M1.out.a 3 _ rfl, fun _ => block_cell M1.out.a 4 _ rfl, fun _ => block_cell M1.out.a 5 _ rfl, trivial⟩ (fun hC0 hS0 => ?_)
  clear M0
  generalize W.drew = V1 at *
  have HBS : Hid (w.heap.size + 1 < V1.heap.size) := M1.out.lt
  refine wpAnyS_take (i := 0) (oi := ?oi1) (v := .pointer (some ⟨w.heap.size, 3, none⟩)) ?hi1 (by kernel_rfl) (by kernel_rfl) (by kernel_rfl) (lateK_iff (by rfl)) ?hq1 ?hy1 hC0 hS0 ?rest1
  case hi1 => simp only [List.getElem?_toArray, List.getElem?_cons_zero, Option.some.injEq]; rfl
  case hq1 => exact fun _ _ _ h => h
  case hy1 =>
    refine Or.inl ⟨by kernel_rfl, fun V hV => ?_⟩
    clear hV
    go_simp
  intro hC1 hS1
  clear hC0 hS0
  try simp only [Go.Act.put, List.setIfInBounds_toArray, List.set_cons_zero, List.set_cons_succ]
  refine wpAnyS_take (i := 1) (oi := ?oi2) (v := .slice so ss.length sc) ?hi2 (by kernel_rfl) (by kernel_rfl) (by kernel_rfl) (lateK_iff (by rfl)) ?hq2 ?hy2 hC1 hS1 ?rest2
  case hi2 => simp only [List.getElem?_toArray, List.getElem?_cons_succ, List.getElem?_cons_zero, Option.some.injEq]; rfl
  case hq2 => exact fun _ _ _ h => h
  case hy2 =>
    refine Or.inl ⟨by kernel_rfl, fun V hV => ?_⟩
    have q1 := lateK_cell 0 hV rfl rfl (by kernel_rfl); clear hV
    go_simp
  intro hC2 hS2
  clear hC1 hS1
  try simp only [Go.Act.put, List.setIfInBounds_toArray, List.set_cons_zero, List.set_cons_succ]
  refine wpAnyS_take (i := 3) (oi := ?oi3) (v := .pointer (some ⟨w.heap.size, 4, none⟩)) ?hi3 (by kernel_rfl) (by kernel_rfl) (by kernel_rfl) (lateK_iff (by rfl)) ?hq3 ?hy3 hC2 hS2 ?rest3
  case hi3 => simp only [List.getElem?_toArray, List.getElem?_cons_succ, List.getElem?_cons_zero, Option.some.injEq]; rfl
  case hq3 => exact fun _ _ _ h => h
  case hy3 =>
    refine Or.inl ⟨by kernel_rfl, fun V hV => ?_⟩
    clear hV
    go_simp
  intro hC3 hS3
  clear hC2 hS2
  try simp only [Go.Act.put, List.setIfInBounds_toArray, List.set_cons_zero, List.set_cons_succ]
  refine wpAnyS_take (i := 4) (oi := ?oi4) (v := .slice lo ls.length lc) ?hi4 (by kernel_rfl) (by kernel_rfl) (by kernel_rfl) (lateK_iff (by rfl)) ?hq4 ?hy4 hC3 hS3 ?rest4
  case hi4 => simp only [List.getElem?_toArray, List.getElem?_cons_succ, List.getElem?_cons_zero, Option.some.injEq]; rfl
  case hq4 => exact fun _ _ _ h => h
  case hy4 =>
    refine Or.inl ⟨by kernel_rfl, fun V hV => ?_⟩
    have q1 := lateK_cell 1 hV rfl rfl (by kernel_rfl); clear hV
    go_simp
  intro hC4 hS4
  clear hC3 hS3
  try simp only [Go.Act.put, List.setIfInBounds_toArray, List.set_cons_zero, List.set_cons_succ]
  refine wpAnyS_take (i := 6) (oi := ?oi5) (v := .pointer (some ⟨w.heap.size, 5, none⟩)) ?hi5 (by kernel_rfl) (by kernel_rfl) (by kernel_rfl) (lateK_iff (by rfl)) ?hq5 ?hy5 hC4 hS4 ?rest5
  case hi5 => simp only [List.getElem?_toArray, List.getElem?_cons_succ, List.getElem?_cons_zero, Option.some.injEq]; rfl
  case hq5 => exact fun _ _ _ h => h
  case hy5 =>
    refine Or.inl ⟨by kernel_rfl, fun V hV => ?_⟩
    clear hV
    go_simp
  intro hC5 hS5
  clear hC4 hS4
  try simp only [Go.Act.put, List.setIfInBounds_toArray, List.set_cons_zero, List.set_cons_succ]
  refine wpAnyS_take (i := 7) (oi := ?oi6) (v := .slice to_ ts.length tc) ?hi6 (by kernel_rfl) (by kernel_rfl) (by kernel_rfl) (lateK_iff (by rfl)) ?hq6 ?hy6 hC5 hS5 ?rest6
  case hi6 => simp only [List.getElem?_toArray, List.getElem?_cons_succ, List.getElem?_cons_zero, Option.some.injEq]; rfl
  case hq6 => exact fun _ _ _ h => h
  case hy6 =>
    refine Or.inl ⟨by kernel_rfl, fun V hV => ?_⟩
    have q1 := lateK_cell 2 hV rfl rfl (by kernel_rfl); clear hV
    go_simp
  intro hC6 hS6
  clear hC5 hS5
  try simp only [Go.Act.put, List.setIfInBounds_toArray, List.set_cons_zero, List.set_cons_succ]
  refine wpAnyS_ready (rs := [2]) (by kernel_rfl) (by simp) ?_
  refine AllReadyS.cons rfl hC6 (fun K hK => ?_) AllReadyS.nil
  go_simp
  refine (clone_smps so sc ss N1.out _ (HA.out.hs.grown M1.out.g)).mono ?_
  rintro e w1 ⟨⟨v1, rfl, ho1⟩, hg1⟩
  obtain ⟨a1, c1, rfl, hs1, hb1⟩ := own_smps ho1
  have HO1 := Lib.hid ho1
  have HS1 := Lib.hid hs1; have HB1 := Lib.hid hb1; have G1 := Lib.hid hg1
  have M2 := Lib.hid (M1.out.grown hg1)
  refine hK.out _ _ ⟨fun _ => block_cell M2.out.a 3 _ rfl, fun _ => block_cell M2.out.a 4 _ rfl, fun _ => block_cell M2.out.a 5 _ rfl, trivial⟩ (fun hC7 hS7 => ?_)
  clear hK hC6 hS6 K
  clear ho1 hg1 hs1 hb1
  try simp only [Go.Act.put, List.setIfInBounds_toArray, List.set_cons_zero, List.set_cons_succ]
  refine wpAnyS_take (i := 9) (oi := ?oi8) (v := .pointer (some ⟨w.heap.size, 3, none⟩)) ?hi8 (by kernel_rfl) (by kernel_rfl) (by kernel_rfl) (lateK_iff (by rfl)) ?hq8 ?hy8 hC7 hS7 ?rest8
  case hi8 => simp only [List.getElem?_toArray, List.getElem?_cons_succ, List.getElem?_cons_zero, Option.some.injEq]; rfl
  case hq8 => exact fun _ _ _ h => h
  case hy8 =>
    refine Or.inl ⟨by kernel_rfl, fun V hV => ?_⟩
    clear hV
    go_simp
  intro hC8 hS8
  clear hC7 hS7
  try simp only [Go.Act.put, List.setIfInBounds_toArray, List.set_cons_zero, List.set_cons_succ]
  refine wpAnyS_ready (rs := [5]) (by kernel_rfl) (by simp) ?_
  refine AllReadyS.cons rfl hC8 (fun K hK => ?_) AllReadyS.nil
  go_simp
  refine (clone_laps lo lc ls N2.out _ (HA.out.hl.grown M2.out.g)).mono ?_
  rintro e w2 ⟨⟨v2, rfl, ho2⟩, hg2⟩
  obtain ⟨a2, c2, rfl, hs2, hb2⟩ := own_lapsR ho2 HA.out.hl.sizes
  replace HO1 := Lib.hid (HO1.out.kept hg2 (by cases (Value.slice a1 ss.length c1).ownBlock <;> simp))
  have SP1 := Lib.hid (rows_apart HO1.out ho2 (by decide))
  have HS2 := Lib.hid hs2; have HB2 := Lib.hid hb2; have G2 := Lib.hid hg2
  have M3 := Lib.hid (M2.out.grown hg2)
  refine hK.out _ _ ⟨fun _ => block_cell M3.out.a 3 _ rfl, fun _ => block_cell M3.out.a 4 _ rfl, fun _ => block_cell M3.out.a 5 _ rfl, trivial⟩ (fun hC9 hS9 => ?_)
  clear hK hC8 hS8 K
  clear ho2 hg2 hs2 hb2
  try simp only [Go.Act.put, List.setIfInBounds_toArray, List.set_cons_zero, List.set_cons_succ]
  refine wpAnyS_ready (rs := [8]) (by kernel_rfl) (by simp) ?_
  refine AllReadyS.cons rfl hC9 (fun K hK => ?_) AllReadyS.nil
  go_simp
  refine (clone_tags to_ tc ts N3.out _ (HA.out.ht.grown M3.out.g)).mono ?_
  rintro e w3 ⟨⟨v3, rfl, ho3⟩, hg3⟩
  obtain ⟨a3, c3, rfl, hs3, hb3⟩ := own_tags ho3 HA.out.ht.sizes
  replace HO1 := Lib.hid (HO1.out.kept hg3 (by cases (Value.slice a1 ss.length c1).ownBlock <;> simp))
  have SP2 := Lib.hid (rows_apart HO1.out ho3 (by decide))
  have HS3 := Lib.hid hs3; have HB3 := Lib.hid hb3
  have M4 := Lib.hid (M3.out.grown hg3)
  have HL1 := Lib.hid (HS1.out.grown (grown_trans G2.out hg3)); have HL2 := Lib.hid (HS2.out.grown hg3)
  have z1 := M1.out.lt; have z2 := G1.out.size; have z3 := G2.out.size
  refine hK.out _ _ ⟨fun _ => block_cell M4.out.a 3 _ rfl, fun _ => block_cell M4.out.a 4 _ rfl, fun _ => block_cell M4.out.a 5 _ rfl, trivial⟩ (fun hC10 hS10 => ?_)
  clear hK hC9 hS9 K
  clear ho3 hg3 hs3 hb3 M1 M2 M3 HS1 HS2
  try simp only [Go.Act.put, List.setIfInBounds_toArray, List.set_cons_zero, List.set_cons_succ]
  refine wpAnyS_ready (rs := [10]) (by kernel_rfl) (by simp) ?_
  refine AllReadyS.cons rfl hC10 (fun K hK => ?_) AllReadyS.nil
  have x3 := block_cell M4.out.a 3 _ rfl; have f3 := block_free (k := 3) M4.out.a
  go_simp
  replace HO1 := Lib.hid (ownsRow_setCell_below HO1.out (a := ⟨w.heap.size, 3, none⟩) (by have := HBS.out; show w.heap.size < _; omega) (.slice a1 ss.length c1))
  have M5 := Lib.hid (M4.out.setA 3 (.slice a1 ss.length c1))
  refine hK.out _ _ ⟨lateUp (by rfl), fun _ => block_cell M5.out.a 4 _ rfl, fun _ => block_cell M5.out.a 5 _ rfl, trivial⟩ (fun hC11 hS11 => ?_)
  clear hK hC10 hS10 K
  clear x3 f3
  try simp only [Go.Act.put, List.setIfInBounds_toArray, List.set_cons_zero, List.set_cons_succ]
  refine wpAnyS_take (i := 11) (oi := ?oi12) (v := .pointer (some ⟨w.heap.size, 4, none⟩)) ?hi12 (by kernel_rfl) (by kernel_rfl) (by kernel_rfl) (lateK_iff (by rfl)) ?hq12 ?hy12 hC11 hS11 ?rest12
  case hi12 => simp only [List.getElem?_toArray, List.getElem?_cons_succ, List.getElem?_cons_zero, Option.some.injEq]; rfl
  case hq12 => exact fun _ _ _ h => h
  case hy12 =>
    refine Or.inl ⟨by kernel_rfl, fun V hV => ?_⟩
    clear hV
    go_simp
  intro hC12 hS12
  clear hC11 hS11
  try simp only [Go.Act.put, List.setIfInBounds_toArray, List.set_cons_zero, List.set_cons_succ]
  refine wpAnyS_ready (rs := [12]) (by kernel_rfl) (by simp) ?_
  refine AllReadyS.cons rfl hC12 (fun K hK => ?_) AllReadyS.nil
  have x4 := block_cell M5.out.a 4 _ rfl; have f4 := block_free (k := 4) M5.out.a
  go_simp
  replace HO1 := Lib.hid (ownsRow_setCell_below HO1.out (a := ⟨w.heap.size, 4, none⟩) (by have := HBS.out; show w.heap.size < _; omega) (.slice a2 ls.length c2))
  have M6 := Lib.hid (M5.out.setA 4 (.slice a2 ls.length c2))
  refine hK.out _ _ ⟨lateUp (by rfl), lateUp (by rfl), fun _ => block_cell M6.out.a 5 _ rfl, trivial⟩ (fun hC13 hS13 => ?_)
  clear hK hC12 hS12 K
  clear x4 f4
  try simp only [Go.Act.put, List.setIfInBounds_toArray, List.set_cons_zero, List.set_cons_succ]
  refine wpAnyS_take (i := 13) (oi := ?oi14) (v := .pointer (some ⟨w.heap.size, 5, none⟩)) ?hi14 (by kernel_rfl) (by kernel_rfl) (by kernel_rfl) (lateK_iff (by rfl)) ?hq14 ?hy14 hC13 hS13 ?rest14
  case hi14 => simp only [List.getElem?_toArray, List.getElem?_cons_succ, List.getElem?_cons_zero, Option.some.injEq]; rfl
  case hq14 => exact fun _ _ _ h => h
  case hy14 =>
    refine Or.inl ⟨by kernel_rfl, fun V hV => ?_⟩
    clear hV
    go_simp
  intro hC14 hS14
  clear hC13 hS13
  try simp only [Go.Act.put, List.setIfInBounds_toArray, List.set_cons_zero, List.set_cons_succ]
  refine wpAnyS_ready (rs := [14]) (by kernel_rfl) (by simp) ?_
  refine AllReadyS.cons rfl hC14 (fun K hK => ?_) AllReadyS.nil
  have x5 := block_cell M6.out.a 5 _ rfl; have f5 := block_free (k := 5) M6.out.a
  go_simp
  replace HO1 := Lib.hid (ownsRow_setCell_below HO1.out (a := ⟨w.heap.size, 5, none⟩) (by have := HBS.out; show w.heap.size < _; omega) (.slice a3 ts.length c3))
  have M7 := Lib.hid (M6.out.setA 5 (.slice a3 ts.length c3))
  refine hK.out _ _ ⟨lateUp (by rfl), lateUp (by rfl), lateUp (by rfl), trivial⟩ (fun hC15 hS15 => ?_)
  clear hK hC14 hS14 K
  clear x5 f5
  try simp only [Go.Act.put, List.setIfInBounds_toArray, List.set_cons_zero, List.set_cons_succ]
  refine wpAnyS_done (by kernel_rfl) ?_ _
  clear hC15 hS15
  have HE : Hid (∀ p : Addr, p.block ≠ w.heap.size → (((w3.setCell ⟨w.heap.size, 3, none⟩ (.slice a1 ss.length c1)).setCell ⟨w.heap.size, 4, none⟩ (.slice a2 ls.length c2)).setCell ⟨w.heap.size, 5, none⟩ (.slice a3 ts.length c3)).cell? p = w3.cell? p) := fun p hp => by
    iterate 3 rw [World.cell?_setCell_other _ _ _ _ (fun e => hp (by subst e; rfl))]
  have HF1 := Lib.hid (HL1.out.eq (w' := ((w3.setCell ⟨w.heap.size, 3, none⟩ (.slice a1 ss.length c1)).setCell ⟨w.heap.size, 4, none⟩ (.slice a2 ls.length c2)).setCell ⟨w.heap.size, 5, none⟩ (.slice a3 ts.length c3)) fun a ha o => HE.out _ (by have := (HB1.out a ha).1; show a.block ≠ _; omega))
  have HF2 := Lib.hid (HL2.out.eq (w' := ((w3.setCell ⟨w.heap.size, 3, none⟩ (.slice a1 ss.length c1)).setCell ⟨w.heap.size, 4, none⟩ (.slice a2 ls.length c2)).setCell ⟨w.heap.size, 5, none⟩ (.slice a3 ts.length c3)) fun a ha o => HE.out _ (by have := (HB2.out a ha).1; show a.block ≠ _; omega))
  have HF3 := Lib.hid (HS3.out.eq (w' := ((w3.setCell ⟨w.heap.size, 3, none⟩ (.slice a1 ss.length c1)).setCell ⟨w.heap.size, 4, none⟩ (.slice a2 ls.length c2)).setCell ⟨w.heap.size, 5, none⟩ (.slice a3 ts.length c3)) fun a ha o => HE.out _ (by have := (HB3.out a ha).1; show a.block ≠ _; omega))
  clear HE HL1 HL2 HS3 M4 M5 M6 G1 G2
  generalize ((w3.setCell ⟨w.heap.size, 3, none⟩ (.slice a1 ss.length c1)).setCell ⟨w.heap.size, 4, none⟩ (.slice a2 ls.length c2)).setCell ⟨w.heap.size, 5, none⟩ (.slice a3 ts.length c3) = W7 at *
  have u0 := block_cell M7.out.a 0 _ rfl
  have z0 := block_cell M7.out.z 0 _ rfl
  have y0 := block_free (k := 0) M7.out.z
  have u1 := block_cell M7.out.a 1 _ rfl
  have z1 := block_cell M7.out.z 1 _ rfl
  have y1 := block_free (k := 1) M7.out.z
  have u2 := block_cell M7.out.a 2 _ rfl
  have z2 := block_cell M7.out.z 2 _ rfl
  have y2 := block_free (k := 2) M7.out.z
  have u3 := block_cell M7.out.a 3 _ rfl
  have z3 := block_cell M7.out.z 3 _ rfl
  have y3 := block_free (k := 3) M7.out.z
  have u4 := block_cell M7.out.a 4 _ rfl
  have z4 := block_cell M7.out.z 4 _ rfl
  have y4 := block_free (k := 4) M7.out.z
  have u5 := block_cell M7.out.a 5 _ rfl
  have z5 := block_cell M7.out.z 5 _ rfl
  have y5 := block_free (k := 5) M7.out.z
  go_wp2_with fail
  refine bodyPost_ret (v := .agg #[.string nm, .int .i64 sp, .int .i64 st, .slice a1 ss.length c1, .slice a2 ls.length c2, .slice a3 ts.length c3]) (by simp [results, Try.results62, go_sem, z0, z1, z2, z3, z4, z5]) rfl ⟨⟨_, rfl, a1, c1, a2, c2, a3, c3, rfl, ?_, ⟨fun a ha => by have := (HB1.out a ha).1; omega, fun a ha => by have := (HB2.out a ha).1; omega, fun a ha => by have := (HB3.out a ha).1; omega⟩, ⟨V1.heap.size, ?_, ?_⟩, SP1.out, SP2.out⟩, ?_⟩
  · refine ⟨HA.out.ns, HA.out.sl, HA.out.ll, HA.out.tl, HF1.out.eq fun a ha o => ?_, HF2.out.eq fun a ha o => ?_, HF3.out.eq fun a ha o => ?_⟩
    · have hb := (HB1.out a ha).1
      iterate 6 rw [World.cell?_setCell_other _ _ _ _ (fun e => by injection e with e; omega)]
    · have hb := (HB2.out a ha).1
      iterate 6 rw [World.cell?_setCell_other _ _ _ _ (fun e => by injection e with e; omega)]
    · have hb := (HB3.out a ha).1
      iterate 6 rw [World.cell?_setCell_other _ _ _ _ (fun e => by injection e with e; omega)]
  · have := HBS.out; omega
  · exact ownsRow_setCell_below (ownsRow_setCell_below (ownsRow_setCell_below (ownsRow_setCell_below (ownsRow_setCell_below (ownsRow_setCell_below HO1.out (by have := HBS.out; show w.heap.size + 1 < _; omega) _) (by have := HBS.out; show w.heap.size + 1 < _; omega) _) (by have := HBS.out; show w.heap.size + 1 < _; omega) _) (by have := HBS.out; show w.heap.size + 1 < _; omega) _) (by have := HBS.out; show w.heap.size + 1 < _; omega) _) (by have := HBS.out; show w.heap.size + 1 < _; omega) _
  · exact (((((((M7.out.setZ 0 _).setZ 1 _).setZ 2 _).setZ 3 _).setZ 4 _).setZ 5 _)).g

set_option maxRecDepth 100000 in
set_option maxHeartbeats 3200000 in
theorem copied_own (a : Act) (n1 : a.ss.length ≤ 20000) (n2 : a.ls.length ≤ 20000) (n3 : a.ts.length ≤ 20000) (w : World) (ha : ActAt w a) :
    Calls Try.prog 63 #[a.val] w fun e w' => (∃ v, e = .returned v ∧ ActOwn w.heap.size w' v a) ∧ w.grownBy w' none := by
  obtain ⟨nm, sp, st, so, sc, ss, lo, lc, ls, to_, tc, ts⟩ := a
  simp only [Act.val] at *
  have HA := Lib.hid ha
  have N1 := Lib.hid n1; have N2 := Lib.hid n2; have N3 := Lib.hid n3
  have M0 := Lib.hid (ClB.new w #[.string nm, .int .i64 sp, .int .i64 st, .slice so ss.length sc, .slice lo ls.length lc, .slice to_ ts.length tc] #[.string ⟨#[]⟩, .int .i64 0, .int .i64 0, .slice none 0 0, .slice none 0 0, .slice none 0 0])
  clear ha n1 n2 n3
  obtain ⟨i0, p0, q0, r0, s0⟩ := info_parts cinfo_smps
  obtain ⟨i1, p1, q1, r1, s1⟩ := info_parts cinfo_laps
  obtain ⟨i2, p2, q2, r2, s2⟩ := info_parts cinfo_tags
  have P0 := Lib.hid p0; have Q0 := Lib.hid q0; have R0 := Lib.hid r0; have S0 := Lib.hid s0
  clear p0 q0 r0 s0
  have P1 := Lib.hid p1; have Q1 := Lib.hid q1; have R1 := Lib.hid r1; have S1 := Lib.hid s1
  clear p1 q1 r1 s1
  have P2 := Lib.hid p2; have Q2 := Lib.hid q2; have R2 := Lib.hid r2; have S2 := Lib.hid s2
  clear p2 q2 r2 s2
  go_enter Try.func63, Try.ntmps63
  have Z0 := M0.out.lt
  have HBS : Hid (w.heap.size + 1 < w.heap.size + 2) := Nat.lt_succ_self _
  have x0 := block_cell M0.out.a 3 _ rfl
  go_upto_region 2 with (at_builtin; refine wpList_append_src _ rfl _ _ 22 rfl (w.heap.size + 2) 28 i0 (.agg #[.int .i64 0, .int .i64 0, .int .i64 0, .int .i64 0, .int .i64 0, .int .i64 0, .int .i64 0]) 7 56 Try.underlying22 P0.out Q0.out R0.out S0.out rfl (by decide) rfl so ss.length sc (smpRw ss) rfl (HA.out.hs.grown M0.out.g).src (smpRw_len ss) (smpRw_one ss) (by have := N1.out; unfold maxLen; omega) (by have := N1.out; omega) (by have := M0.out.lt; omega) ?_; intro v' w0 ho hg; obtain ⟨a1, c1, rfl, hs0, hb0⟩ := own_smps ho; have HB1 := Lib.hid hb0; have HS0 := Lib.hid hs0; have K0 := Lib.hid (M0.out.grown hg); have f0 := block_free (k := 3) K0.out.a; have g0 := block_cell K0.out.a 3 _ rfl; have GG0 := Lib.hid hg; have Y0 := hg.size; have HO1 := Lib.hid ho; clear ho hg hs0 hb0 x0)
  replace HO1 := Lib.hid (ownsRow_setCell_below HO1.out (a := ⟨w.heap.size, 3, none⟩) (by show w.heap.size < _; omega) (.slice a1 ss.length c1))
  have M1 := Lib.hid (K0.out.setA 3 (.slice a1 ss.length c1))
  clear f0 g0
  obtain ⟨W1, hW⟩ : ∃ W, w0.setCell ⟨w.heap.size, 3, none⟩ (.slice a1 ss.length c1) = W := ⟨_, rfl⟩
  have E0 : Hid (∀ p : Addr, p.block ≠ w.heap.size → W1.cell? p = w0.cell? p) := fun p hp => by rw [← hW]; rw [World.cell?_setCell_other _ _ _ _ (fun e => hp (by subst e; rfl))]
  have X0 : W1.heap.size = w0.heap.size := by rw [← hW]; simp [World.setCell]
  rw [hW] at M1 HO1 ⊢
  clear hW
  have Z1 : w0.heap.size ≤ W1.heap.size := by omega
  clear X0
  have x1 := block_cell M1.out.a 4 _ rfl
  go_upto_region 3 with (at_builtin; refine wpList_append_src _ rfl _ _ 23 rfl (w.heap.size + 2) 77 i1 (.agg #[.int .i64 0, .int .i64 0, .string ⟨#[]⟩]) 3 32 Try.underlying23 P1.out Q1.out R1.out S1.out rfl (by decide) rfl lo ls.length lc (lapRw ls) rfl (HA.out.hl.grown M1.out.g).src (lapRw_len ls) (lapRw_one ls) (by have := N2.out; unfold maxLen; omega) (by have := N2.out; omega) (by have := M1.out.lt; omega) ?_; intro v' w1 ho hg; obtain ⟨a2, c2, rfl, hs1, hb1⟩ := own_lapsR ho HA.out.hl.sizes; have HB2 := Lib.hid hb1; have HS1 := Lib.hid hs1; have K1 := Lib.hid (M1.out.grown hg); have f1 := block_free (k := 4) K1.out.a; have g1 := block_cell K1.out.a 4 _ rfl; have GG1 := Lib.hid hg; have Y1 := hg.size; replace HO1 := Lib.hid (HO1.out.kept hg (by cases (Value.slice a1 ss.length c1).ownBlock <;> simp)); have SP1 := Lib.hid (rows_apart HO1.out ho (by decide)); clear ho hg hs1 hb1 x1)
  replace HO1 := Lib.hid (ownsRow_setCell_below HO1.out (a := ⟨w.heap.size, 4, none⟩) (by show w.heap.size < _; omega) (.slice a2 ls.length c2))
  have M2 := Lib.hid (K1.out.setA 4 (.slice a2 ls.length c2))
  clear f1 g1
  obtain ⟨W2, hW⟩ : ∃ W, w1.setCell ⟨w.heap.size, 4, none⟩ (.slice a2 ls.length c2) = W := ⟨_, rfl⟩
  have E1 : Hid (∀ p : Addr, p.block ≠ w.heap.size → W2.cell? p = w1.cell? p) := fun p hp => by rw [← hW]; rw [World.cell?_setCell_other _ _ _ _ (fun e => hp (by subst e; rfl))]
  have X1 : W2.heap.size = w1.heap.size := by rw [← hW]; simp [World.setCell]
  rw [hW] at M2 HO1 ⊢
  clear hW
  have Z2 : w1.heap.size ≤ W2.heap.size := by omega
  clear X1
  have x2 := block_cell M2.out.a 5 _ rfl
  go_upto_region 4 with (at_builtin; refine wpList_append_src _ rfl _ _ 24 rfl (w.heap.size + 2) 9 i2 (.string ⟨#[]⟩) 1 16 Try.underlying24 P2.out Q2.out R2.out S2.out rfl (by decide) rfl to_ ts.length tc (tagRw ts) rfl (HA.out.ht.grown M2.out.g).src (tagRw_len ts) (tagRw_one ts) (by have := N3.out; unfold maxLen; omega) (by have := N3.out; omega) (by have := M2.out.lt; omega) ?_; intro v' w2 ho hg; obtain ⟨a3, c3, rfl, hs2, hb2⟩ := own_tags ho HA.out.ht.sizes; have HB3 := Lib.hid hb2; have HS2 := Lib.hid hs2; have K2 := Lib.hid (M2.out.grown hg); have f2 := block_free (k := 5) K2.out.a; have g2 := block_cell K2.out.a 5 _ rfl; have GG2 := Lib.hid hg; have Y2 := hg.size; replace HO1 := Lib.hid (HO1.out.kept hg (by cases (Value.slice a1 ss.length c1).ownBlock <;> simp)); have SP2 := Lib.hid (rows_apart HO1.out ho (by decide)); clear ho hg hs2 hb2 x2)
  replace HO1 := Lib.hid (ownsRow_setCell_below HO1.out (a := ⟨w.heap.size, 5, none⟩) (by show w.heap.size < _; omega) (.slice a3 ts.length c3))
  have M3 := Lib.hid (K2.out.setA 5 (.slice a3 ts.length c3))
  clear f2 g2
  obtain ⟨W3, hW⟩ : ∃ W, w2.setCell ⟨w.heap.size, 5, none⟩ (.slice a3 ts.length c3) = W := ⟨_, rfl⟩
  have E2 : Hid (∀ p : Addr, p.block ≠ w.heap.size → W3.cell? p = w2.cell? p) := fun p hp => by rw [← hW]; rw [World.cell?_setCell_other _ _ _ _ (fun e => hp (by subst e; rfl))]
  have X2 : W3.heap.size = w2.heap.size := by rw [← hW]; simp [World.setCell]
  rw [hW] at M3 HO1 ⊢
  clear hW
  have Z3 : w2.heap.size ≤ W3.heap.size := by omega
  clear X2
  have HF1 := Lib.hid (((HS0.out.eq fun a ha o => E0.out _ (by have := (HB1.out a ha).1; show a.block ≠ _; omega)).grown GG1.out).eq (w' := W2) fun a ha o => E1.out _ (by have := (HB1.out a ha).1; show a.block ≠ _; omega))
  have HF1 := Lib.hid ((HF1.out.grown GG2.out).eq (w' := W3) fun a ha o => E2.out _ (by have := (HB1.out a ha).1; show a.block ≠ _; omega))
  have HF2 := Lib.hid (((HS1.out.eq fun a ha o => E1.out _ (by have := (HB2.out a ha).1; show a.block ≠ _; omega)).grown GG2.out).eq (w' := W3) fun a ha o => E2.out _ (by have := (HB2.out a ha).1; show a.block ≠ _; omega))
  have HF3 := Lib.hid (HS2.out.eq (w' := W3) fun a ha o => E2.out _ (by have := (HB3.out a ha).1; show a.block ≠ _; omega))
  clear HS0 HS1 HS2 E0 E1 E2 GG0 GG1 GG2 K0 K1 K2 M0 M1 M2
  have u0 := block_cell M3.out.a 0 _ rfl
  have z0 := block_cell M3.out.z 0 _ rfl
  have y0 := block_free (k := 0) M3.out.z
  have u1 := block_cell M3.out.a 1 _ rfl
  have z1 := block_cell M3.out.z 1 _ rfl
  have y1 := block_free (k := 1) M3.out.z
  have u2 := block_cell M3.out.a 2 _ rfl
  have z2 := block_cell M3.out.z 2 _ rfl
  have y2 := block_free (k := 2) M3.out.z
  have u3 := block_cell M3.out.a 3 _ rfl
  have z3 := block_cell M3.out.z 3 _ rfl
  have y3 := block_free (k := 3) M3.out.z
  have u4 := block_cell M3.out.a 4 _ rfl
  have z4 := block_cell M3.out.z 4 _ rfl
  have y4 := block_free (k := 4) M3.out.z
  have u5 := block_cell M3.out.a 5 _ rfl
  have z5 := block_cell M3.out.z 5 _ rfl
  have y5 := block_free (k := 5) M3.out.z
  go_wp2_with fail
  refine bodyPost_ret (v := .agg #[.string nm, .int .i64 sp, .int .i64 st, .slice a1 ss.length c1, .slice a2 ls.length c2, .slice a3 ts.length c3]) (by simp [results, Try.results63, go_sem, z0, z1, z2, z3, z4, z5]) rfl ⟨⟨_, rfl, a1, c1, a2, c2, a3, c3, rfl, ?_, ⟨fun a ha => by have := (HB1.out a ha).1; omega, fun a ha => by have := (HB2.out a ha).1; omega, fun a ha => by have := (HB3.out a ha).1; omega⟩, ⟨w.heap.size + 2, ?_, ?_⟩, SP1.out, SP2.out⟩, ?_⟩
  · refine ⟨HA.out.ns, HA.out.sl, HA.out.ll, HA.out.tl, HF1.out.eq fun a ha o => ?_, HF2.out.eq fun a ha o => ?_, HF3.out.eq fun a ha o => ?_⟩
    · have hb := (HB1.out a ha).1
      iterate 6 rw [World.cell?_setCell_other _ _ _ _ (fun e => by injection e with e; omega)]
    · have hb := (HB2.out a ha).1
      iterate 6 rw [World.cell?_setCell_other _ _ _ _ (fun e => by injection e with e; omega)]
    · have hb := (HB3.out a ha).1
      iterate 6 rw [World.cell?_setCell_other _ _ _ _ (fun e => by injection e with e; omega)]
  · have := HBS.out; omega
  · exact ownsRow_setCell_below (ownsRow_setCell_below (ownsRow_setCell_below (ownsRow_setCell_below (ownsRow_setCell_below (ownsRow_setCell_below HO1.out (by have := HBS.out; show w.heap.size + 1 < _; omega) _) (by have := HBS.out; show w.heap.size + 1 < _; omega) _) (by have := HBS.out; show w.heap.size + 1 < _; omega) _) (by have := HBS.out; show w.heap.size + 1 < _; omega) _) (by have := HBS.out; show w.heap.size + 1 < _; omega) _) (by have := HBS.out; show w.heap.size + 1 < _; omega) _
  · exact (((((((M3.out.setZ 0 _).setZ 1 _).setZ 2 _).setZ 3 _).setZ 4 _).setZ 5 _)).g

end Go.Proofs.Ytgkhhfojioepgaa
