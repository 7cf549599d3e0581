/- The contract of sampleAt. -/
import Derived.Test.YtgkhhfojioepgaaTSearch
namespace Go.Proofs.Ytgkhhfojioepgaa
open Go.RowKit
set_option linter.unusedSimpArgs false
set_option linter.unusedVariables false

set_option maxRecDepth 100000 in
set_option maxHeartbeats 3200000 in
theorem sampleAt_is (b off cap : Nat) (ss : List Smp) (HS : Hid (SOk ss)) (s : Int) {m : Nat} (HM : Hid (SIdx ss s m)) (hml : m < ss.length) (hs0 : 0 ≤ s) (w : World) (hs : SmpsAt w (some ⟨b, off, none⟩) ss) {x : Smp} (hx : Hid (atV ss s m = x)) :
    Calls Try.prog 57 #[.slice (some ⟨b, off, none⟩) ss.length cap, .int .i64 s] w fun e w' => e = .returned (smpVal x) ∧ w.grownBy w' none := by
  have hl : (ss.length : Int) ≤ 20000 := HS.out.len
  have HA := Lib.hid hs
  have GA := Lib.hid (World.grownBy_alloc w (.cells #[.int .i64 0, .int .i64 0, .int .i64 0, .int .i64 0, .int .i64 0, .int .i64 0, .int .i64 0] 28) none)
  have HZ : Hid ((w.alloc (.cells #[.int .i64 0, .int .i64 0, .int .i64 0, .int .i64 0, .int .i64 0, .int .i64 0, .int .i64 0] 28)).heap[w.heap.size]? = some (.cells #[.int .i64 0, .int .i64 0, .int .i64 0, .int .i64 0, .int .i64 0, .int .i64 0, .int .i64 0] 28 (0, 0))) := heap_alloc_new w _
  have hm2 : (m : Int) < (ss.length : Int) := by omega
  obtain ⟨q0, q1, q2, q3, q4, q5, q6⟩ := hs.cells _ rfl m hml
  rw [← smpD_at hml] at q0 q1 q2 q3 q4 q5 q6
  simp only at q0 q1 q2 q3 q4 q5 q6
  have hxv := hx.out
  unfold atV at hxv
  have hle := HM.out.2.2 m (Nat.le_refl _) hml
  have hqi := smpIn_of HS.out hml
  by_cases he : (smpD ss m).t = s
  · rw [if_pos he] at hxv
    have HF : Hid (decide (m < ss.length ∧ (smpD ss m).t = s) = true) := by show _ = _; simp; exact ⟨hml, he⟩
    clear hx hs hqi hle he
    unfold smpVal
    go_enter Try.func57, Try.ntmps57
    go_wp2_with fail
    refine (searchS_is b off cap ss hl s HM _ (HA.out.grown GA.out) HF).mono ?_; rintro e w1 ⟨rfl, hg1⟩
    have GG := Lib.hid (grown_trans GA.out hg1)
    replace q0 := grown_cell GG.out q0; replace q1 := grown_cell GG.out q1; replace q2 := grown_cell GG.out q2; replace q3 := grown_cell GG.out q3; replace q4 := grown_cell GG.out q4; replace q5 := grown_cell GG.out q5; replace q6 := grown_cell GG.out q6
    have hz := (hg1.block _ (lt_of_block HZ.out) (by simp)).trans HZ.out
    have z0 := block_cell hz 0 _ rfl
    have y0 := block_free (k := 0) hz
    have z1 := block_cell hz 1 _ rfl
    have y1 := block_free (k := 1) hz
    have z2 := block_cell hz 2 _ rfl
    have y2 := block_free (k := 2) hz
    have z3 := block_cell hz 3 _ rfl
    have y3 := block_free (k := 3) hz
    have z4 := block_cell hz 4 _ rfl
    have y4 := block_free (k := 4) hz
    have z5 := block_cell hz 5 _ rfl
    have y5 := block_free (k := 5) hz
    have z6 := block_cell hz 6 _ rfl
    have y6 := block_free (k := 6) hz
    rw [hxv] at q0 q1 q2 q3 q4 q5 q6
    obtain ⟨x0, x1, x2, x3, x4, x5, x6⟩ := x
    simp only at q0 q1 q2 q3 q4 q5 q6
    clear hz hg1 hxv
    go_wp2_with fail
    refine bodyPost_ret (v := .agg #[.int .i64 x0, .int .i64 x1, .int .i64 x2, .int .i64 x3, .int .i64 x4, .int .i64 x5, .int .i64 x6]) (by simp [results, Try.results57, go_sem, z0, z1, z2, z3, z4, z5, z6]) rfl ⟨rfl, ?_⟩
    exact grown_far (grown_far (grown_far (grown_far (grown_far (grown_far (grown_far GG.out (Nat.le_refl _) _ _) (Nat.le_refl _) _ _) (Nat.le_refl _) _ _) (Nat.le_refl _) _ _) (Nat.le_refl _) _ _) (Nat.le_refl _) _ _) (Nat.le_refl _) _ _
  · rw [if_neg he] at hxv
    have HF : Hid (decide (m < ss.length ∧ (smpD ss m).t = s) = false) := by show _ = _; simp; intro _; exact he
    have hm0 : 0 < m := by
      rcases Nat.eq_zero_or_pos m with e | e
      · have h0 := HS.out.t0 (by omega)
        rw [e] at hle he
        omega
      · exact e
    obtain ⟨k, hk⟩ : ∃ k, m - 1 = k := ⟨_, rfl⟩
    have hkl : k < ss.length := by omega
    have hlt := HM.out.2.1 k (by omega)
    have hpi := smpIn_of HS.out hkl
    obtain ⟨p0, p1, p2, p3, p4, p5, p6⟩ := hs.cells _ rfl k hkl
    rw [← smpD_at hkl] at p0 p1 p2 p3 p4 p5 p6
    simp only at p0 p1 p2 p3 p4 p5 p6
    rw [hk] at hxv
    have KO : Hid (∀ V : World, Calls Try.prog 119 #[smpVal (smpD ss k), smpVal (smpD ss m), .int .i64 s] V fun e w' => e = .returned (smpVal x) ∧ V.grownBy w' none) := fun V => onStep_is (smpD ss k) (smpD ss m) s hpi hqi (by omega) hle (by omega) V (Lib.hid hxv)
    have rk : IntKind.i64.wrap ((m : Int) - 1) = (k : Int) := by rw [show (m : Int) - 1 = (k : Int) by omega]; exact IntWalk.i64_in _ (by omega)
    have hk2 : (k : Int) < (ss.length : Int) := by omega
    have hk0 : (0 : Int) ≤ (k : Int) := by omega
    have hm00 : (0 : Int) ≤ (m : Int) := by omega
    have KS : Hid (∀ V : World, SmpsAt V (some ⟨b, off, none⟩) ss → Calls Try.prog 118 #[.slice (some ⟨b, off, none⟩) ss.length cap, .int .i64 s] V fun e w' => e = .returned (.tuple #[.int .i64 m, .bool false]) ∧ V.grownBy w' none) := fun V hV => searchS_is b off cap ss hl s HM V hV HF
    clear HF
    generalize smpD ss k = P at *
    generalize smpD ss m = Q at *
    obtain ⟨pt, px, py, pz, pp, pq, ps⟩ := P
    obtain ⟨qt, qx, qy, qz, qp, qq, qs⟩ := Q
    simp only at p0 p1 p2 p3 p4 p5 p6 q0 q1 q2 q3 q4 q5 q6
    unfold smpVal at KO ⊢
    simp only at KO
    have HPQ := Lib.hid (And.intro (And.intro p0 (And.intro p1 (And.intro p2 (And.intro p3 (And.intro p4 (And.intro p5 p6)))))) (And.intro q0 (And.intro q1 (And.intro q2 (And.intro q3 (And.intro q4 (And.intro q5 q6)))))))
    clear hx hs hqi hle he hpi hlt hxv hk p0 p1 p2 p3 p4 p5 p6 q0 q1 q2 q3 q4 q5 q6
    go_enter Try.func57, Try.ntmps57
    go_wp2_with fail
    refine (KS.out _ (HA.out.grown GA.out)).mono ?_; rintro e w1 ⟨rfl, hg1⟩
    have GG := Lib.hid (grown_trans GA.out hg1)
    have HZ1 := Lib.hid ((hg1.block _ (lt_of_block HZ.out) (by simp)).trans HZ.out)
    have HC : Hid (∀ V, (w.grownBy V none ∧ ∃ c : Array Value, c.size = 7 ∧ V.heap[w.heap.size]? = some (.cells c 28 (0, 0))) → (World.cell? V ⟨b, off + k * 7, none⟩ = some (.int .i64 pt) ∧ World.cell? V ⟨b, off + k * 7 + 1, none⟩ = some (.int .i64 px) ∧ World.cell? V ⟨b, off + k * 7 + 2, none⟩ = some (.int .i64 py) ∧ World.cell? V ⟨b, off + k * 7 + 3, none⟩ = some (.int .i64 pz) ∧ World.cell? V ⟨b, off + k * 7 + 4, none⟩ = some (.int .i64 pp) ∧ World.cell? V ⟨b, off + k * 7 + 5, none⟩ = some (.int .i64 pq) ∧ World.cell? V ⟨b, off + k * 7 + 6, none⟩ = some (.int .i64 ps)) ∧ (World.cell? V ⟨b, off + m * 7, none⟩ = some (.int .i64 qt) ∧ World.cell? V ⟨b, off + m * 7 + 1, none⟩ = some (.int .i64 qx) ∧ World.cell? V ⟨b, off + m * 7 + 2, none⟩ = some (.int .i64 qy) ∧ World.cell? V ⟨b, off + m * 7 + 3, none⟩ = some (.int .i64 qz) ∧ World.cell? V ⟨b, off + m * 7 + 4, none⟩ = some (.int .i64 qp) ∧ World.cell? V ⟨b, off + m * 7 + 5, none⟩ = some (.int .i64 qq) ∧ World.cell? V ⟨b, off + m * 7 + 6, none⟩ = some (.int .i64 qs))) := fun V hV => by
      obtain ⟨⟨p0, p1, p2, p3, p4, p5, p6⟩, q0, q1, q2, q3, q4, q5, q6⟩ := HPQ.out
      exact ⟨⟨grown_cell hV.1 p0, grown_cell hV.1 p1, grown_cell hV.1 p2, grown_cell hV.1 p3, grown_cell hV.1 p4, grown_cell hV.1 p5, grown_cell hV.1 p6⟩, grown_cell hV.1 q0, grown_cell hV.1 q1, grown_cell hV.1 q2, grown_cell hV.1 q3, grown_cell hV.1 q4, grown_cell hV.1 q5, grown_cell hV.1 q6⟩
    clear hg1
    go_wp2_with fail
    refine wp_region_held_drew (S := fun V => w.grownBy V none ∧ ∃ c : Array Value, c.size = 7 ∧ V.heap[w.heap.size]? = some (.cells c 28 (0, 0))) (by kernel_rfl) ⟨grown_trans GG.out (grown_drewN _ _ 1), _, rfl, HZ1.out⟩ (fun hHeld => ?_)
    refine wpAnyH_take (i := 0) (oi := ?oi0) (v := .slice (some ⟨b, off, none⟩) ss.length cap) ?hi0 (by kernel_rfl) (by kernel_rfl) (by kernel_rfl) ?hq0 ?hy0 hHeld ?rest0
    case hi0 => simp only [List.getElem?_toArray, List.getElem?_cons_zero, Option.some.injEq]; rfl
    case hq0 => exact fun _ _ _ h => h
    case hy0 =>
      refine Or.inl ⟨by kernel_rfl, fun V hV => ?_⟩
      clear hV
      go_simp
    try simp only [Go.Act.put, List.setIfInBounds_toArray, List.set_cons_zero, List.set_cons_succ]
    refine wpAnyH_take (i := 1) (oi := ?oi1) (v := .int .i64 (m : Nat)) ?hi1 (by kernel_rfl) (by kernel_rfl) (by kernel_rfl) ?hq1 ?hy1 hHeld ?rest1
    case hi1 => simp only [List.getElem?_toArray, List.getElem?_cons_succ, List.getElem?_cons_zero, Option.some.injEq]; rfl
    case hq1 => exact fun _ _ _ h => h
    case hy1 =>
      refine Or.inl ⟨by kernel_rfl, fun V hV => ?_⟩
      clear hV
      go_simp
    try simp only [Go.Act.put, List.setIfInBounds_toArray, List.set_cons_zero, List.set_cons_succ]
    refine wpAnyH_take (i := 2) (oi := ?oi2) (v := .int .i64 (k : Nat)) ?hi2 (by kernel_rfl) (by kernel_rfl) (by kernel_rfl) ?hq2 ?hy2 hHeld ?rest2
    case hi2 => simp only [List.getElem?_toArray, List.getElem?_cons_succ, List.getElem?_cons_zero, Option.some.injEq]; rfl
    case hq2 => exact fun _ _ _ h => h
    case hy2 =>
      refine Or.inl ⟨by kernel_rfl, fun V hV => ?_⟩
      clear hV
      go_simp
    try simp only [Go.Act.put, List.setIfInBounds_toArray, List.set_cons_zero, List.set_cons_succ]
    refine wpAnyH_take (i := 3) (oi := ?oi3) (v := .pointer (some ⟨b, off + k * 7, none⟩)) ?hi3 (by kernel_rfl) (by kernel_rfl) (by kernel_rfl) ?hq3 ?hy3 hHeld ?rest3
    case hi3 => simp only [List.getElem?_toArray, List.getElem?_cons_succ, List.getElem?_cons_zero, Option.some.injEq]; rfl
    case hq3 => exact fun _ _ _ h => h
    case hy3 =>
      refine Or.inl ⟨by kernel_rfl, fun V hV => ?_⟩
      clear hV
      go_simp
    try simp only [Go.Act.put, List.setIfInBounds_toArray, List.set_cons_zero, List.set_cons_succ]
    refine wpAnyH_take (i := 4) (oi := ?oi4) (v := .agg #[.int .i64 pt, .int .i64 px, .int .i64 py, .int .i64 pz, .int .i64 pp, .int .i64 pq, .int .i64 ps]) ?hi4 (by kernel_rfl) (by kernel_rfl) (by kernel_rfl) ?hq4 ?hy4 hHeld ?rest4
    case hi4 => simp only [List.getElem?_toArray, List.getElem?_cons_succ, List.getElem?_cons_zero, Option.some.injEq]; rfl
    case hq4 => exact fun _ _ _ h => h
    case hy4 =>
      refine Or.inl ⟨by kernel_rfl, fun V hV => ?_⟩
      have H7 := (HC.out V hV).1; obtain ⟨p0, p1, p2, p3, p4, p5, p6⟩ := H7; clear hV
      go_simp
    try simp only [Go.Act.put, List.setIfInBounds_toArray, List.set_cons_zero, List.set_cons_succ]
    refine wpAnyH_take (i := 5) (oi := ?oi5) (v := .slice (some ⟨b, off, none⟩) ss.length cap) ?hi5 (by kernel_rfl) (by kernel_rfl) (by kernel_rfl) ?hq5 ?hy5 hHeld ?rest5
    case hi5 => simp only [List.getElem?_toArray, List.getElem?_cons_succ, List.getElem?_cons_zero, Option.some.injEq]; rfl
    case hq5 => exact fun _ _ _ h => h
    case hy5 =>
      refine Or.inl ⟨by kernel_rfl, fun V hV => ?_⟩
      clear hV
      go_simp
    try simp only [Go.Act.put, List.setIfInBounds_toArray, List.set_cons_zero, List.set_cons_succ]
    refine wpAnyH_take (i := 6) (oi := ?oi6) (v := .int .i64 (m : Nat)) ?hi6 (by kernel_rfl) (by kernel_rfl) (by kernel_rfl) ?hq6 ?hy6 hHeld ?rest6
    case hi6 => simp only [List.getElem?_toArray, List.getElem?_cons_succ, List.getElem?_cons_zero, Option.some.injEq]; rfl
    case hq6 => exact fun _ _ _ h => h
    case hy6 =>
      refine Or.inl ⟨by kernel_rfl, fun V hV => ?_⟩
      clear hV
      go_simp
    try simp only [Go.Act.put, List.setIfInBounds_toArray, List.set_cons_zero, List.set_cons_succ]
    refine wpAnyH_take (i := 7) (oi := ?oi7) (v := .pointer (some ⟨b, off + m * 7, none⟩)) ?hi7 (by kernel_rfl) (by kernel_rfl) (by kernel_rfl) ?hq7 ?hy7 hHeld ?rest7
    case hi7 => simp only [List.getElem?_toArray, List.getElem?_cons_succ, List.getElem?_cons_zero, Option.some.injEq]; rfl
    case hq7 => exact fun _ _ _ h => h
    case hy7 =>
      refine Or.inl ⟨by kernel_rfl, fun V hV => ?_⟩
      clear hV
      go_simp
    try simp only [Go.Act.put, List.setIfInBounds_toArray, List.set_cons_zero, List.set_cons_succ]
    refine wpAnyH_take (i := 8) (oi := ?oi8) (v := .agg #[.int .i64 qt, .int .i64 qx, .int .i64 qy, .int .i64 qz, .int .i64 qp, .int .i64 qq, .int .i64 qs]) ?hi8 (by kernel_rfl) (by kernel_rfl) (by kernel_rfl) ?hq8 ?hy8 hHeld ?rest8
    case hi8 => simp only [List.getElem?_toArray, List.getElem?_cons_succ, List.getElem?_cons_zero, Option.some.injEq]; rfl
    case hq8 => exact fun _ _ _ h => h
    case hy8 =>
      refine Or.inl ⟨by kernel_rfl, fun V hV => ?_⟩
      have H7 := (HC.out V hV).2; obtain ⟨q0, q1, q2, q3, q4, q5, q6⟩ := H7; clear hV
      go_simp
    try simp only [Go.Act.put, List.setIfInBounds_toArray, List.set_cons_zero, List.set_cons_succ]
    refine wpAnyH_take (i := 9) (oi := ?oi9) (v := .int .i64 s) ?hi9 (by kernel_rfl) (by kernel_rfl) (by kernel_rfl) ?hq9 ?hy9 hHeld ?rest9
    case hi9 => simp only [List.getElem?_toArray, List.getElem?_cons_succ, List.getElem?_cons_zero, Option.some.injEq]; rfl
    case hq9 => exact fun _ _ _ h => h
    case hy9 =>
      refine Or.inl ⟨by kernel_rfl, fun V hV => ?_⟩
      clear hV
      go_simp
    try simp only [Go.Act.put, List.setIfInBounds_toArray, List.set_cons_zero, List.set_cons_succ]
    refine wpAnyH_ready (rs := [10]) (by kernel_rfl) (by simp) ?_
    refine AllReadyH.cons rfl (fun K hK => ?_) AllReadyH.nil
    go_simp
    refine (KO.out _).mono ?_
    rintro e w5 ⟨rfl, hg5⟩
    refine hK.out _ _ ?_ (fun hHeld1 => ?_)
    · obtain ⟨h1, c, h2, h3⟩ := hHeld
      exact ⟨grown_trans h1 hg5, c, h2, (hg5.block _ (lt_of_block h3) (by simp)).trans h3⟩
    clear hK K
    try simp only [Go.Act.put, List.setIfInBounds_toArray, List.set_cons_zero, List.set_cons_succ]
    refine wpAnyH_ready (rs := [11]) (by kernel_rfl) (by simp) ?_
    refine AllReadyH.cons rfl (fun K hK => ?_) AllReadyH.nil
    obtain ⟨g5, c, hc, hz⟩ := hHeld1
    have z0 := block_cell hz 0 _ (Array.getElem?_eq_getElem (show 0 < c.size from hc.symm ▸ (by decide : 0 < 7)))
    have y0 := block_free (k := 0) hz
    have z1 := block_cell hz 1 _ (Array.getElem?_eq_getElem (show 1 < c.size from hc.symm ▸ (by decide : 1 < 7)))
    have y1 := block_free (k := 1) hz
    have z2 := block_cell hz 2 _ (Array.getElem?_eq_getElem (show 2 < c.size from hc.symm ▸ (by decide : 2 < 7)))
    have y2 := block_free (k := 2) hz
    have z3 := block_cell hz 3 _ (Array.getElem?_eq_getElem (show 3 < c.size from hc.symm ▸ (by decide : 3 < 7)))
    have y3 := block_free (k := 3) hz
    have z4 := block_cell hz 4 _ (Array.getElem?_eq_getElem (show 4 < c.size from hc.symm ▸ (by decide : 4 < 7)))
    have y4 := block_free (k := 4) hz
    have z5 := block_cell hz 5 _ (Array.getElem?_eq_getElem (show 5 < c.size from hc.symm ▸ (by decide : 5 < 7)))
    have y5 := block_free (k := 5) hz
    have z6 := block_cell hz 6 _ (Array.getElem?_eq_getElem (show 6 < c.size from hc.symm ▸ (by decide : 6 < 7)))
    have y6 := block_free (k := 6) hz
    have G5 := Lib.hid g5; have HZ5 := Lib.hid hz; have HC7 := Lib.hid hc
    clear hHeld g5 hz hg5
    go_simp
    refine hK.out _ _ ⟨grown_far (grown_far (grown_far (grown_far (grown_far (grown_far (grown_far G5.out (Nat.le_refl _) _ _) (Nat.le_refl _) _ _) (Nat.le_refl _) _ _) (Nat.le_refl _) _ _) (Nat.le_refl _) _ _) (Nat.le_refl _) _ _) (Nat.le_refl _) _ _, _, ?_, block_set (block_set (block_set (block_set (block_set (block_set (block_set HZ5.out _) _) _) _) _) _) _⟩ (fun hHeld4 => ?_)
    · simpa using HC7.out
    refine wpAnyH_done (by kernel_rfl) ?_ _
    clear hK K
    have G6 := hHeld4.1
    clear hHeld4
    go_wp2_with fail
    refine bodyPost_ret (v := .agg #[.int .i64 x.t, .int .i64 x.x, .int .i64 x.y, .int .i64 x.z, .int .i64 x.p, .int .i64 x.q, .int .i64 x.s]) (by simp [results, Try.results57, go_sem, z0, z1, z2, z3, z4, z5, z6]) rfl ⟨rfl, G6⟩
end Go.Proofs.Ytgkhhfojioepgaa
