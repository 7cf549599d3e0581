/- How far a sample is from the way between two others, and whether all between are near: both sides. -/
import Derived.Test.YtgkhhfojioepgaaTMissP
namespace Go.Proofs.Ytgkhhfojioepgaa
open Go.RowKit
set_option linter.unusedSimpArgs false
set_option linter.unusedVariables false

attribute [local go_sem] Oper.semAt_some

set_option maxRecDepth 100000 in
set_option maxHeartbeats 1600000 in
theorem miss_is (p q x : Smp) (hp : SmpIn p) (hq : SmpIn q) (hx : SmpIn x) (h0 : p.t ≤ x.t) (h1 : x.t ≤ q.t) (hpq : p.t < q.t) (w : World) {m : Int} (hm : Hid (missV p q x = m)) :
    Calls Try.prog 145 #[.agg #[.int .i64 p.t, .int .i64 p.x, .int .i64 p.y, .int .i64 p.z, .int .i64 p.p, .int .i64 p.q, .int .i64 p.s], .agg #[.int .i64 q.t, .int .i64 q.x, .int .i64 q.y, .int .i64 q.z, .int .i64 q.p, .int .i64 q.q, .int .i64 q.s], .agg #[.int .i64 x.t, .int .i64 x.x, .int .i64 x.y, .int .i64 x.z, .int .i64 x.p, .int .i64 x.q, .int .i64 x.s]] w fun e w' => e = .returned (.int .i64 m) ∧ w.grownBy w' none := by
  obtain ⟨o, ho⟩ : ∃ o, onV p q x.t = o := ⟨_, rfl⟩
  have KO : Hid (∀ V : World, Calls Try.prog 119 #[.agg #[.int .i64 p.t, .int .i64 p.x, .int .i64 p.y, .int .i64 p.z, .int .i64 p.p, .int .i64 p.q, .int .i64 p.s], .agg #[.int .i64 q.t, .int .i64 q.x, .int .i64 q.y, .int .i64 q.z, .int .i64 q.p, .int .i64 q.q, .int .i64 q.s], .int .i64 x.t] V fun e w' => e = .returned (.agg #[.int .i64 o.t, .int .i64 o.x, .int .i64 o.y, .int .i64 o.z, .int .i64 o.p, .int .i64 o.q, .int .i64 o.s]) ∧ V.grownBy w' none) := fun V => onStep_is p q x.t hp hq h0 h1 hpq V (Lib.hid ho)
  have KS : Hid (∀ V : World, Calls Try.prog 134 #[.agg #[.int .i64 o.t, .int .i64 o.x, .int .i64 o.y, .int .i64 o.z, .int .i64 o.p, .int .i64 o.q, .int .i64 o.s], .agg #[.int .i64 x.t, .int .i64 x.x, .int .i64 x.y, .int .i64 x.z, .int .i64 x.p, .int .i64 x.q, .int .i64 x.s]] V fun e w' => e = .returned (.int .i64 m) ∧ V.grownBy w' none) := fun V => square_is o x (by rw [← ho]; exact on_plane hp hq h0 h1 hpq) hx.2.1 V (by show _ = _; rw [← hm.out, ← ho]; rfl)
  clear hm ho hp hq hx h0 h1 hpq
  obtain ⟨pt, px, py, pz, pp, pq, ps⟩ := p
  obtain ⟨qt, qx, qy, qz, qp, qq, qs⟩ := q
  obtain ⟨xt, xx, xy, xz, xp, xq, xs⟩ := x
  simp only at KO KS ⊢
  have H3 : Hid (∀ V, (((w.alloc (.cells #[.int .i64 pt, .int .i64 px, .int .i64 py, .int .i64 pz, .int .i64 pp, .int .i64 pq, .int .i64 ps] 28)).alloc (.cells #[.int .i64 qt, .int .i64 qx, .int .i64 qy, .int .i64 qz, .int .i64 qp, .int .i64 qq, .int .i64 qs] 28)).alloc (.cells #[.int .i64 xt, .int .i64 xx, .int .i64 xy, .int .i64 xz, .int .i64 xp, .int .i64 xq, .int .i64 xs] 28)).grownBy V none → V.heap[w.heap.size]? = some (.cells #[.int .i64 pt, .int .i64 px, .int .i64 py, .int .i64 pz, .int .i64 pp, .int .i64 pq, .int .i64 ps] 28 (0, 0)) ∧ V.heap[w.heap.size + 1]? = some (.cells #[.int .i64 qt, .int .i64 qx, .int .i64 qy, .int .i64 qz, .int .i64 qp, .int .i64 qq, .int .i64 qs] 28 (0, 0)) ∧ V.heap[w.heap.size + 2]? = some (.cells #[.int .i64 xt, .int .i64 xx, .int .i64 xy, .int .i64 xz, .int .i64 xp, .int .i64 xq, .int .i64 xs] 28 (0, 0))) := fun V g => by
    refine ⟨?_, ?_, ?_⟩
    · rw [g.block _ (by simp; omega) (by simp), Below.heap_alloc _ _ _ (by simp; omega), Below.heap_alloc _ _ _ (by simp)]; exact heap_alloc_new w _
    · rw [g.block _ (by simp) (by simp), Below.heap_alloc _ _ _ (by simp)]
      have := heap_alloc_new (w.alloc (.cells #[.int .i64 pt, .int .i64 px, .int .i64 py, .int .i64 pz, .int .i64 pp, .int .i64 pq, .int .i64 ps] 28)) (.cells #[.int .i64 qt, .int .i64 qx, .int .i64 qy, .int .i64 qz, .int .i64 qp, .int .i64 qq, .int .i64 qs] 28); simpa using this
    · rw [g.block _ (by simp) (by simp)]
      have := heap_alloc_new ((w.alloc (.cells #[.int .i64 pt, .int .i64 px, .int .i64 py, .int .i64 pz, .int .i64 pp, .int .i64 pq, .int .i64 ps] 28)).alloc (.cells #[.int .i64 qt, .int .i64 qx, .int .i64 qy, .int .i64 qz, .int .i64 qp, .int .i64 qq, .int .i64 qs] 28)) (.cells #[.int .i64 xt, .int .i64 xx, .int .i64 xy, .int .i64 xz, .int .i64 xp, .int .i64 xq, .int .i64 xs] 28); simpa using this
  have GB := Lib.hid (grown_trans (grown_trans (World.grownBy_alloc w (.cells #[.int .i64 pt, .int .i64 px, .int .i64 py, .int .i64 pz, .int .i64 pp, .int .i64 pq, .int .i64 ps] 28) none) (World.grownBy_alloc _ (.cells #[.int .i64 qt, .int .i64 qx, .int .i64 qy, .int .i64 qz, .int .i64 qp, .int .i64 qq, .int .i64 qs] 28) none)) (World.grownBy_alloc _ (.cells #[.int .i64 xt, .int .i64 xx, .int .i64 xy, .int .i64 xz, .int .i64 xp, .int .i64 xq, .int .i64 xs] 28) none))
  go_enter Try.func145, Try.ntmps145
  go_wp2_with fail
  obtain ⟨W, hW⟩ : ∃ W, ((w.alloc (.cells #[.int .i64 pt, .int .i64 px, .int .i64 py, .int .i64 pz, .int .i64 pp, .int .i64 pq, .int .i64 ps] 28)).alloc (.cells #[.int .i64 qt, .int .i64 qx, .int .i64 qy, .int .i64 qz, .int .i64 qp, .int .i64 qq, .int .i64 qs] 28)).alloc (.cells #[.int .i64 xt, .int .i64 xx, .int .i64 xy, .int .i64 xz, .int .i64 xp, .int .i64 xq, .int .i64 xs] 28) = W := ⟨_, rfl⟩
  rw [hW] at H3 GB ⊢
  clear hW
  have GD : Hid (W.grownBy W.drew none) := grown_drewN W none 1
  refine region_late (lateK (fun V => W.grownBy V none) []) (by kernel_rfl) GD.out (fun hC0 hS0 => ?_)
  generalize W.drew = V1 at *
  refine wpAnyS_take (i := 0) (oi := ?oi1) (v := .agg #[.int .i64 pt, .int .i64 px, .int .i64 py, .int .i64 pz, .int .i64 pp, .int .i64 pq, .int .i64 ps]) ?hi1 (by kernel_rfl) (by kernel_rfl) (by kernel_rfl) (lateK_iff (by rfl)) ?hq1 ?hy1 hC0 hS0 ?rest1
  case hi1 => simp only [List.getElem?_toArray, List.getElem?_cons_succ, List.getElem?_cons_zero, Option.some.injEq]; rfl
  case hq1 => exact fun _ _ _ h => h
  case hy1 =>
    refine Or.inl ⟨by kernel_rfl, fun V hV => ?_⟩
    obtain ⟨hh0, hh1, hh2⟩ := H3.out V (lateK_g hV); have p0 := block_cell hh0 0 _ rfl; have p1 := block_cell hh0 1 _ rfl; have p2 := block_cell hh0 2 _ rfl; have p3 := block_cell hh0 3 _ rfl; have p4 := block_cell hh0 4 _ rfl; have p5 := block_cell hh0 5 _ rfl; have p6 := block_cell hh0 6 _ rfl; clear hh0 hh1 hh2; clear hV
    go_simp
  intro hC1 hS1
  clear hC0 hS0
  try simp only [Go.Act.put, List.setIfInBounds_toArray, List.set_cons_zero, List.set_cons_succ]
  refine wpAnyS_take (i := 1) (oi := ?oi2) (v := .agg #[.int .i64 qt, .int .i64 qx, .int .i64 qy, .int .i64 qz, .int .i64 qp, .int .i64 qq, .int .i64 qs]) ?hi2 (by kernel_rfl) (by kernel_rfl) (by kernel_rfl) (lateK_iff (by rfl)) ?hq2 ?hy2 hC1 hS1 ?rest2
  case hi2 => simp only [List.getElem?_toArray, List.getElem?_cons_succ, List.getElem?_cons_zero, Option.some.injEq]; rfl
  case hq2 => exact fun _ _ _ h => h
  case hy2 =>
    refine Or.inl ⟨by kernel_rfl, fun V hV => ?_⟩
    obtain ⟨hh0, hh1, hh2⟩ := H3.out V (lateK_g hV); have q0 := block_cell hh1 0 _ rfl; have q1 := block_cell hh1 1 _ rfl; have q2 := block_cell hh1 2 _ rfl; have q3 := block_cell hh1 3 _ rfl; have q4 := block_cell hh1 4 _ rfl; have q5 := block_cell hh1 5 _ rfl; have q6 := block_cell hh1 6 _ rfl; clear hh0 hh1 hh2; clear hV
    go_simp
  intro hC2 hS2
  clear hC1 hS1
  try simp only [Go.Act.put, List.setIfInBounds_toArray, List.set_cons_zero, List.set_cons_succ]
  refine wpAnyS_take (i := 2) (oi := ?oi3) (v := .pointer (some ⟨w.heap.size + 2, 0, none⟩)) ?hi3 (by kernel_rfl) (by kernel_rfl) (by kernel_rfl) (lateK_iff (by rfl)) ?hq3 ?hy3 hC2 hS2 ?rest3
  case hi3 => simp only [List.getElem?_toArray, List.getElem?_cons_succ, List.getElem?_cons_zero, Option.some.injEq]; rfl
  case hq3 => exact fun _ _ _ h => h
  case hy3 =>
    refine Or.inl ⟨by kernel_rfl, fun V hV => ?_⟩
    clear hV
    go_simp
  intro hC3 hS3
  clear hC2 hS2
  try simp only [Go.Act.put, List.setIfInBounds_toArray, List.set_cons_zero, List.set_cons_succ]
  refine wpAnyS_take (i := 3) (oi := ?oi4) (v := .int .i64 xt) ?hi4 (by kernel_rfl) (by kernel_rfl) (by kernel_rfl) (lateK_iff (by rfl)) ?hq4 ?hy4 hC3 hS3 ?rest4
  case hi4 => simp only [List.getElem?_toArray, List.getElem?_cons_succ, List.getElem?_cons_zero, Option.some.injEq]; rfl
  case hq4 => exact fun _ _ _ h => h
  case hy4 =>
    refine Or.inl ⟨by kernel_rfl, fun V hV => ?_⟩
    obtain ⟨hh0, hh1, hh2⟩ := H3.out V (lateK_g hV); have x0 := block_cell hh2 0 _ rfl; have x1 := block_cell hh2 1 _ rfl; have x2 := block_cell hh2 2 _ rfl; have x3 := block_cell hh2 3 _ rfl; have x4 := block_cell hh2 4 _ rfl; have x5 := block_cell hh2 5 _ rfl; have x6 := block_cell hh2 6 _ rfl; clear hh0 hh1 hh2; clear hV
    go_simp
  intro hC4 hS4
  clear hC3 hS3
  try simp only [Go.Act.put, List.setIfInBounds_toArray, List.set_cons_zero, List.set_cons_succ]
  refine wpAnyS_take (i := 5) (oi := ?oi5) (v := .agg #[.int .i64 xt, .int .i64 xx, .int .i64 xy, .int .i64 xz, .int .i64 xp, .int .i64 xq, .int .i64 xs]) ?hi5 (by kernel_rfl) (by kernel_rfl) (by kernel_rfl) (lateK_iff (by rfl)) ?hq5 ?hy5 hC4 hS4 ?rest5
  case hi5 => simp only [List.getElem?_toArray, List.getElem?_cons_succ, List.getElem?_cons_zero, Option.some.injEq]; rfl
  case hq5 => exact fun _ _ _ h => h
  case hy5 =>
    refine Or.inl ⟨by kernel_rfl, fun V hV => ?_⟩
    obtain ⟨hh0, hh1, hh2⟩ := H3.out V (lateK_g hV); have x0 := block_cell hh2 0 _ rfl; have x1 := block_cell hh2 1 _ rfl; have x2 := block_cell hh2 2 _ rfl; have x3 := block_cell hh2 3 _ rfl; have x4 := block_cell hh2 4 _ rfl; have x5 := block_cell hh2 5 _ rfl; have x6 := block_cell hh2 6 _ rfl; clear hh0 hh1 hh2; clear hV
    go_simp
  intro hC5 hS5
  clear hC4 hS4
  try simp only [Go.Act.put, List.setIfInBounds_toArray, List.set_cons_zero, List.set_cons_succ]
  refine wpAnyS_ready (rs := [4]) (by kernel_rfl) (by simp) ?_
  refine AllReadyS.cons rfl hC5 (fun K hK => ?_) AllReadyS.nil
  go_simp
  refine (KO.out _).mono ?_
  rintro e w5 ⟨rfl, hg5⟩
  have G5 := Lib.hid (grown_trans GD.out hg5)
  refine hK.out _ _ G5.out (fun hC6 hS6 => ?_)
  clear hK hC5 hS5 K
  clear hg5 GD
  try simp only [Go.Act.put, List.setIfInBounds_toArray, List.set_cons_zero, List.set_cons_succ]
  refine wpAnyS_ready (rs := [6]) (by kernel_rfl) (by simp) ?_
  refine AllReadyS.cons rfl hC6 (fun K hK => ?_) AllReadyS.nil
  go_simp
  refine (KS.out _).mono ?_
  rintro e w6 ⟨rfl, hg6⟩
  have G6 := Lib.hid (grown_trans G5.out hg6)
  refine hK.out _ _ G6.out (fun hC7 hS7 => ?_)
  clear hK hC6 hS6 K
  clear hg6 G5
  try simp only [Go.Act.put, List.setIfInBounds_toArray, List.set_cons_zero, List.set_cons_succ]
  refine wpAnyS_take (i := 7) (oi := ?oi8) (v := .int .i64 m) ?hi8 (by kernel_rfl) (by kernel_rfl) (by kernel_rfl) (lateK_iff (by rfl)) ?hq8 ?hy8 hC7 hS7 ?rest8
  case hi8 => simp only [List.getElem?_toArray, List.getElem?_cons_succ, List.getElem?_cons_zero, Option.some.injEq]; rfl
  case hq8 => exact fun _ _ _ h => h
  case hy8 =>
    refine Or.inl ⟨by kernel_rfl, fun V hV => ?_⟩
    clear hV
    go_simp
  intro hC8 hS8
  clear hC7 hS7
  try simp only [Go.Act.put, List.setIfInBounds_toArray, List.set_cons_zero, List.set_cons_succ]
  refine wpAnyS_done (by kernel_rfl) ?_ _
  clear hC8 hS8
  go_wp2_with fail
  go_ret
  exact ⟨rfl, grown_trans GB.out G6.out⟩

set_option maxRecDepth 100000 in
set_option maxHeartbeats 1600000 in
theorem fault_is (b off cap : Nat) (ss : List Smp) (HS : Hid (SOk ss)) (i k j : Nat) (hi : i < ss.length) (hk : k < ss.length) (hj : j < ss.length) (hik : i ≤ k) (hkj : k ≤ j) (hij : i < j) (w : World) (hs : SmpsAt w (some ⟨b, off, none⟩) ss) {m : Int} (hm : Hid (missV (smpD ss i) (smpD ss j) (smpD ss k) = m)) :
    Calls Try.prog 146 #[.slice (some ⟨b, off, none⟩) ss.length cap, .int .i64 (i : Nat), .int .i64 (k : Nat), .int .i64 (j : Nat)] w fun e w' => e = .returned (.int .i64 m) ∧ w.grownBy w' none := by
  have hl : (ss.length : Int) ≤ 20000 := HS.out.len
  have hpi := smpIn_of HS.out hi; have hqi := smpIn_of HS.out hj; have hxi := smpIn_of HS.out hk
  have t0 := times_le HS.out hik hk; have t1 := times_le HS.out hkj hj; have t2 := times_lt HS.out hij hj
  obtain ⟨o, ho⟩ : ∃ o, onV (smpD ss i) (smpD ss j) (smpD ss k).t = o := ⟨_, rfl⟩
  have KO : Hid (∀ V : World, Calls Try.prog 124 #[.agg #[.int .i64 (smpD ss i).t, .int .i64 (smpD ss i).x, .int .i64 (smpD ss i).y, .int .i64 (smpD ss i).z, .int .i64 (smpD ss i).p, .int .i64 (smpD ss i).q, .int .i64 (smpD ss i).s], .agg #[.int .i64 (smpD ss j).t, .int .i64 (smpD ss j).x, .int .i64 (smpD ss j).y, .int .i64 (smpD ss j).z, .int .i64 (smpD ss j).p, .int .i64 (smpD ss j).q, .int .i64 (smpD ss j).s], .int .i64 (smpD ss k).t] V fun e w' => e = .returned (.agg #[.int .i64 o.t, .int .i64 o.x, .int .i64 o.y, .int .i64 o.z, .int .i64 o.p, .int .i64 o.q, .int .i64 o.s]) ∧ V.grownBy w' none) := fun V => rat_is (smpD ss i) (smpD ss j) _ hpi hqi t0 t1 t2 V (Lib.hid ho)
  have KS : Hid (∀ V : World, Calls Try.prog 108 #[.agg #[.int .i64 o.t, .int .i64 o.x, .int .i64 o.y, .int .i64 o.z, .int .i64 o.p, .int .i64 o.q, .int .i64 o.s], .agg #[.int .i64 (smpD ss k).t, .int .i64 (smpD ss k).x, .int .i64 (smpD ss k).y, .int .i64 (smpD ss k).z, .int .i64 (smpD ss k).p, .int .i64 (smpD ss k).q, .int .i64 (smpD ss k).s]] V fun e w' => e = .returned (.int .i64 m) ∧ V.grownBy w' none) := fun V => apart_is o (smpD ss k) (by rw [← ho]; exact on_plane hpi hqi t0 t1 t2) hxi.2.1 V (by show _ = _; rw [← hm.out, ← ho]; rfl)
  have i1 : (i : Int) < (ss.length : Int) := by omega
  have j1 : (j : Int) < (ss.length : Int) := by omega
  have k1 : (k : Int) < (ss.length : Int) := by omega
  have i2 : (0 : Int) ≤ (i : Int) := by omega
  have j2 : (0 : Int) ≤ (j : Int) := by omega
  have k2 : (0 : Int) ≤ (k : Int) := by omega
  have HA := Lib.hid hs
  clear hm ho hpi hqi hxi t0 t1 t2 hs hik hkj hij
  go_enter Try.func146, Try.ntmps146
  go_wp2_with fail
  have SD : Hid (SmpsAt w.drew (some ⟨b, off, none⟩) ss) := HA.out.grown (grown_drewN w none 1)
  have GD : Hid (w.grownBy w.drew none) := grown_drewN w none 1
  refine region_late (lateK (fun V => SmpsAt V (some ⟨b, off, none⟩) ss) []) (by kernel_rfl) SD.out (fun hCf0 hSf0 => ?_)
  generalize w.drew = V1 at *
  refine wpAnyS_take (i := 0) (oi := ?oif1) (v := .slice (some ⟨b, off, none⟩) ss.length cap) ?hif1 (by kernel_rfl) (by kernel_rfl) (by kernel_rfl) (lateK_iff (by rfl)) ?hqf1 ?hyf1 hCf0 hSf0 ?restf1
  case hif1 => simp only [List.getElem?_toArray, List.getElem?_cons_succ, List.getElem?_cons_zero, Option.some.injEq]; rfl
  case hqf1 => exact fun _ _ _ h => h
  case hyf1 =>
    refine Or.inl ⟨by kernel_rfl, fun V hV => ?_⟩
    clear hV
    go_simp
  intro hCf1 hSf1
  clear hCf0 hSf0
  try simp only [Go.Act.put, List.setIfInBounds_toArray, List.set_cons_zero, List.set_cons_succ]
  refine wpAnyS_take (i := 1) (oi := ?oif2) (v := .int .i64 (i : Nat)) ?hif2 (by kernel_rfl) (by kernel_rfl) (by kernel_rfl) (lateK_iff (by rfl)) ?hqf2 ?hyf2 hCf1 hSf1 ?restf2
  case hif2 => simp only [List.getElem?_toArray, List.getElem?_cons_succ, List.getElem?_cons_zero, Option.some.injEq]; rfl
  case hqf2 => exact fun _ _ _ h => h
  case hyf2 =>
    refine Or.inl ⟨by kernel_rfl, fun V hV => ?_⟩
    clear hV
    go_simp
  intro hCf2 hSf2
  clear hCf1 hSf1
  try simp only [Go.Act.put, List.setIfInBounds_toArray, List.set_cons_zero, List.set_cons_succ]
  refine wpAnyS_take (i := 2) (oi := ?oif3) (v := .pointer (some ⟨b, off + i * 7, none⟩)) ?hif3 (by kernel_rfl) (by kernel_rfl) (by kernel_rfl) (lateK_iff (by rfl)) ?hqf3 ?hyf3 hCf2 hSf2 ?restf3
  case hif3 => simp only [List.getElem?_toArray, List.getElem?_cons_succ, List.getElem?_cons_zero, Option.some.injEq]; rfl
  case hqf3 => exact fun _ _ _ h => h
  case hyf3 =>
    refine Or.inl ⟨by kernel_rfl, fun V hV => ?_⟩
    clear hV
    go_simp
  intro hCf3 hSf3
  clear hCf2 hSf2
  try simp only [Go.Act.put, List.setIfInBounds_toArray, List.set_cons_zero, List.set_cons_succ]
  refine wpAnyS_take (i := 3) (oi := ?oif4) (v := .agg #[.int .i64 (smpD ss i).t, .int .i64 (smpD ss i).x, .int .i64 (smpD ss i).y, .int .i64 (smpD ss i).z, .int .i64 (smpD ss i).p, .int .i64 (smpD ss i).q, .int .i64 (smpD ss i).s]) ?hif4 (by kernel_rfl) (by kernel_rfl) (by kernel_rfl) (lateK_iff (by rfl)) ?hqf4 ?hyf4 hCf3 hSf3 ?restf4
  case hif4 => simp only [List.getElem?_toArray, List.getElem?_cons_succ, List.getElem?_cons_zero, Option.some.injEq]; rfl
  case hqf4 => exact fun _ _ _ h => h
  case hyf4 =>
    refine Or.inl ⟨by kernel_rfl, fun V hV => ?_⟩
    obtain ⟨p0, p1, p2, p3, p4, p5, p6⟩ := (lateK_g hV).cells _ rfl i hi; rw [← smpD_at hi] at p0 p1 p2 p3 p4 p5 p6; simp only at p0 p1 p2 p3 p4 p5 p6; clear hV
    go_simp
  intro hCf4 hSf4
  clear hCf3 hSf3
  try simp only [Go.Act.put, List.setIfInBounds_toArray, List.set_cons_zero, List.set_cons_succ]
  refine wpAnyS_take (i := 4) (oi := ?oif5) (v := .slice (some ⟨b, off, none⟩) ss.length cap) ?hif5 (by kernel_rfl) (by kernel_rfl) (by kernel_rfl) (lateK_iff (by rfl)) ?hqf5 ?hyf5 hCf4 hSf4 ?restf5
  case hif5 => simp only [List.getElem?_toArray, List.getElem?_cons_succ, List.getElem?_cons_zero, Option.some.injEq]; rfl
  case hqf5 => exact fun _ _ _ h => h
  case hyf5 =>
    refine Or.inl ⟨by kernel_rfl, fun V hV => ?_⟩
    clear hV
    go_simp
  intro hCf5 hSf5
  clear hCf4 hSf4
  try simp only [Go.Act.put, List.setIfInBounds_toArray, List.set_cons_zero, List.set_cons_succ]
  refine wpAnyS_take (i := 5) (oi := ?oif6) (v := .int .i64 (j : Nat)) ?hif6 (by kernel_rfl) (by kernel_rfl) (by kernel_rfl) (lateK_iff (by rfl)) ?hqf6 ?hyf6 hCf5 hSf5 ?restf6
  case hif6 => simp only [List.getElem?_toArray, List.getElem?_cons_succ, List.getElem?_cons_zero, Option.some.injEq]; rfl
  case hqf6 => exact fun _ _ _ h => h
  case hyf6 =>
    refine Or.inl ⟨by kernel_rfl, fun V hV => ?_⟩
    clear hV
    go_simp
  intro hCf6 hSf6
  clear hCf5 hSf5
  try simp only [Go.Act.put, List.setIfInBounds_toArray, List.set_cons_zero, List.set_cons_succ]
  refine wpAnyS_take (i := 6) (oi := ?oif7) (v := .pointer (some ⟨b, off + j * 7, none⟩)) ?hif7 (by kernel_rfl) (by kernel_rfl) (by kernel_rfl) (lateK_iff (by rfl)) ?hqf7 ?hyf7 hCf6 hSf6 ?restf7
  case hif7 => simp only [List.getElem?_toArray, List.getElem?_cons_succ, List.getElem?_cons_zero, Option.some.injEq]; rfl
  case hqf7 => exact fun _ _ _ h => h
  case hyf7 =>
    refine Or.inl ⟨by kernel_rfl, fun V hV => ?_⟩
    clear hV
    go_simp
  intro hCf7 hSf7
  clear hCf6 hSf6
  try simp only [Go.Act.put, List.setIfInBounds_toArray, List.set_cons_zero, List.set_cons_succ]
  refine wpAnyS_take (i := 7) (oi := ?oif8) (v := .agg #[.int .i64 (smpD ss j).t, .int .i64 (smpD ss j).x, .int .i64 (smpD ss j).y, .int .i64 (smpD ss j).z, .int .i64 (smpD ss j).p, .int .i64 (smpD ss j).q, .int .i64 (smpD ss j).s]) ?hif8 (by kernel_rfl) (by kernel_rfl) (by kernel_rfl) (lateK_iff (by rfl)) ?hqf8 ?hyf8 hCf7 hSf7 ?restf8
  case hif8 => simp only [List.getElem?_toArray, List.getElem?_cons_succ, List.getElem?_cons_zero, Option.some.injEq]; rfl
  case hqf8 => exact fun _ _ _ h => h
  case hyf8 =>
    refine Or.inl ⟨by kernel_rfl, fun V hV => ?_⟩
    obtain ⟨q0, q1, q2, q3, q4, q5, q6⟩ := (lateK_g hV).cells _ rfl j hj; rw [← smpD_at hj] at q0 q1 q2 q3 q4 q5 q6; simp only at q0 q1 q2 q3 q4 q5 q6; clear hV
    go_simp
  intro hCf8 hSf8
  clear hCf7 hSf7
  try simp only [Go.Act.put, List.setIfInBounds_toArray, List.set_cons_zero, List.set_cons_succ]
  refine wpAnyS_take (i := 8) (oi := ?oif9) (v := .slice (some ⟨b, off, none⟩) ss.length cap) ?hif9 (by kernel_rfl) (by kernel_rfl) (by kernel_rfl) (lateK_iff (by rfl)) ?hqf9 ?hyf9 hCf8 hSf8 ?restf9
  case hif9 => simp only [List.getElem?_toArray, List.getElem?_cons_succ, List.getElem?_cons_zero, Option.some.injEq]; rfl
  case hqf9 => exact fun _ _ _ h => h
  case hyf9 =>
    refine Or.inl ⟨by kernel_rfl, fun V hV => ?_⟩
    clear hV
    go_simp
  intro hCf9 hSf9
  clear hCf8 hSf8
  try simp only [Go.Act.put, List.setIfInBounds_toArray, List.set_cons_zero, List.set_cons_succ]
  refine wpAnyS_take (i := 9) (oi := ?oif10) (v := .int .i64 (k : Nat)) ?hif10 (by kernel_rfl) (by kernel_rfl) (by kernel_rfl) (lateK_iff (by rfl)) ?hqf10 ?hyf10 hCf9 hSf9 ?restf10
  case hif10 => simp only [List.getElem?_toArray, List.getElem?_cons_succ, List.getElem?_cons_zero, Option.some.injEq]; rfl
  case hqf10 => exact fun _ _ _ h => h
  case hyf10 =>
    refine Or.inl ⟨by kernel_rfl, fun V hV => ?_⟩
    clear hV
    go_simp
  intro hCf10 hSf10
  clear hCf9 hSf9
  try simp only [Go.Act.put, List.setIfInBounds_toArray, List.set_cons_zero, List.set_cons_succ]
  refine wpAnyS_take (i := 10) (oi := ?oif11) (v := .pointer (some ⟨b, off + k * 7, none⟩)) ?hif11 (by kernel_rfl) (by kernel_rfl) (by kernel_rfl) (lateK_iff (by rfl)) ?hqf11 ?hyf11 hCf10 hSf10 ?restf11
  case hif11 => simp only [List.getElem?_toArray, List.getElem?_cons_succ, List.getElem?_cons_zero, Option.some.injEq]; rfl
  case hqf11 => exact fun _ _ _ h => h
  case hyf11 =>
    refine Or.inl ⟨by kernel_rfl, fun V hV => ?_⟩
    clear hV
    go_simp
  intro hCf11 hSf11
  clear hCf10 hSf10
  try simp only [Go.Act.put, List.setIfInBounds_toArray, List.set_cons_zero, List.set_cons_succ]
  refine wpAnyS_take (i := 11) (oi := ?oif12) (v := .pointer (some ⟨b, off + k * 7, none⟩)) ?hif12 (by kernel_rfl) (by kernel_rfl) (by kernel_rfl) (lateK_iff (by rfl)) ?hqf12 ?hyf12 hCf11 hSf11 ?restf12
  case hif12 => simp only [List.getElem?_toArray, List.getElem?_cons_succ, List.getElem?_cons_zero, Option.some.injEq]; rfl
  case hqf12 => exact fun _ _ _ h => h
  case hyf12 =>
    refine Or.inl ⟨by kernel_rfl, fun V hV => ?_⟩
    clear hV
    go_simp
  intro hCf12 hSf12
  clear hCf11 hSf11
  try simp only [Go.Act.put, List.setIfInBounds_toArray, List.set_cons_zero, List.set_cons_succ]
  refine wpAnyS_take (i := 12) (oi := ?oif13) (v := .int .i64 (smpD ss k).t) ?hif13 (by kernel_rfl) (by kernel_rfl) (by kernel_rfl) (lateK_iff (by rfl)) ?hqf13 ?hyf13 hCf12 hSf12 ?restf13
  case hif13 => simp only [List.getElem?_toArray, List.getElem?_cons_succ, List.getElem?_cons_zero, Option.some.injEq]; rfl
  case hqf13 => exact fun _ _ _ h => h
  case hyf13 =>
    refine Or.inl ⟨by kernel_rfl, fun V hV => ?_⟩
    obtain ⟨x0, x1, x2, x3, x4, x5, x6⟩ := (lateK_g hV).cells _ rfl k hk; rw [← smpD_at hk] at x0 x1 x2 x3 x4 x5 x6; simp only at x0 x1 x2 x3 x4 x5 x6; clear hV
    go_simp
  intro hCf13 hSf13
  clear hCf12 hSf12
  try simp only [Go.Act.put, List.setIfInBounds_toArray, List.set_cons_zero, List.set_cons_succ]
  refine wpAnyS_take (i := 14) (oi := ?oif14) (v := .slice (some ⟨b, off, none⟩) ss.length cap) ?hif14 (by kernel_rfl) (by kernel_rfl) (by kernel_rfl) (lateK_iff (by rfl)) ?hqf14 ?hyf14 hCf13 hSf13 ?restf14
  case hif14 => simp only [List.getElem?_toArray, List.getElem?_cons_succ, List.getElem?_cons_zero, Option.some.injEq]; rfl
  case hqf14 => exact fun _ _ _ h => h
  case hyf14 =>
    refine Or.inl ⟨by kernel_rfl, fun V hV => ?_⟩
    clear hV
    go_simp
  intro hCf14 hSf14
  clear hCf13 hSf13
  try simp only [Go.Act.put, List.setIfInBounds_toArray, List.set_cons_zero, List.set_cons_succ]
  refine wpAnyS_take (i := 15) (oi := ?oif15) (v := .int .i64 (k : Nat)) ?hif15 (by kernel_rfl) (by kernel_rfl) (by kernel_rfl) (lateK_iff (by rfl)) ?hqf15 ?hyf15 hCf14 hSf14 ?restf15
  case hif15 => simp only [List.getElem?_toArray, List.getElem?_cons_succ, List.getElem?_cons_zero, Option.some.injEq]; rfl
  case hqf15 => exact fun _ _ _ h => h
  case hyf15 =>
    refine Or.inl ⟨by kernel_rfl, fun V hV => ?_⟩
    clear hV
    go_simp
  intro hCf15 hSf15
  clear hCf14 hSf14
  try simp only [Go.Act.put, List.setIfInBounds_toArray, List.set_cons_zero, List.set_cons_succ]
  refine wpAnyS_take (i := 16) (oi := ?oif16) (v := .pointer (some ⟨b, off + k * 7, none⟩)) ?hif16 (by kernel_rfl) (by kernel_rfl) (by kernel_rfl) (lateK_iff (by rfl)) ?hqf16 ?hyf16 hCf15 hSf15 ?restf16
  case hif16 => simp only [List.getElem?_toArray, List.getElem?_cons_succ, List.getElem?_cons_zero, Option.some.injEq]; rfl
  case hqf16 => exact fun _ _ _ h => h
  case hyf16 =>
    refine Or.inl ⟨by kernel_rfl, fun V hV => ?_⟩
    clear hV
    go_simp
  intro hCf16 hSf16
  clear hCf15 hSf15
  try simp only [Go.Act.put, List.setIfInBounds_toArray, List.set_cons_zero, List.set_cons_succ]
  refine wpAnyS_take (i := 17) (oi := ?oif17) (v := .agg #[.int .i64 (smpD ss k).t, .int .i64 (smpD ss k).x, .int .i64 (smpD ss k).y, .int .i64 (smpD ss k).z, .int .i64 (smpD ss k).p, .int .i64 (smpD ss k).q, .int .i64 (smpD ss k).s]) ?hif17 (by kernel_rfl) (by kernel_rfl) (by kernel_rfl) (lateK_iff (by rfl)) ?hqf17 ?hyf17 hCf16 hSf16 ?restf17
  case hif17 => simp only [List.getElem?_toArray, List.getElem?_cons_succ, List.getElem?_cons_zero, Option.some.injEq]; rfl
  case hqf17 => exact fun _ _ _ h => h
  case hyf17 =>
    refine Or.inl ⟨by kernel_rfl, fun V hV => ?_⟩
    obtain ⟨x0, x1, x2, x3, x4, x5, x6⟩ := (lateK_g hV).cells _ rfl k hk; rw [← smpD_at hk] at x0 x1 x2 x3 x4 x5 x6; simp only at x0 x1 x2 x3 x4 x5 x6; clear hV
    go_simp
  intro hCf17 hSf17
  clear hCf16 hSf16
  try simp only [Go.Act.put, List.setIfInBounds_toArray, List.set_cons_zero, List.set_cons_succ]
  refine wpAnyS_ready (rs := [13]) (by kernel_rfl) (by simp) ?_
  refine AllReadyS.cons rfl hCf17 (fun K hK => ?_) AllReadyS.nil
  go_simp
  refine (KO.out _).mono ?_
  rintro e w5 ⟨rfl, hg5⟩
  have S5 := Lib.hid (SD.out.grown hg5)
  have G5 := Lib.hid (grown_trans GD.out hg5)
  refine hK.out _ _ S5.out (fun hCf18 hSf18 => ?_)
  clear hK hCf17 hSf17 K
  clear hg5 SD GD
  try simp only [Go.Act.put, List.setIfInBounds_toArray, List.set_cons_zero, List.set_cons_succ]
  refine wpAnyS_ready (rs := [18]) (by kernel_rfl) (by simp) ?_
  refine AllReadyS.cons rfl hCf18 (fun K hK => ?_) AllReadyS.nil
  go_simp
  refine (KS.out _).mono ?_
  rintro e w6 ⟨rfl, hg6⟩
  have S6 := Lib.hid (S5.out.grown hg6)
  have G6 := Lib.hid (grown_trans G5.out hg6)
  refine hK.out _ _ S6.out (fun hCf19 hSf19 => ?_)
  clear hK hCf18 hSf18 K
  clear hg6 S5 G5
  try simp only [Go.Act.put, List.setIfInBounds_toArray, List.set_cons_zero, List.set_cons_succ]
  refine wpAnyS_take (i := 19) (oi := ?oif20) (v := .int .i64 m) ?hif20 (by kernel_rfl) (by kernel_rfl) (by kernel_rfl) (lateK_iff (by rfl)) ?hqf20 ?hyf20 hCf19 hSf19 ?restf20
  case hif20 => simp only [List.getElem?_toArray, List.getElem?_cons_succ, List.getElem?_cons_zero, Option.some.injEq]; rfl
  case hqf20 => exact fun _ _ _ h => h
  case hyf20 =>
    refine Or.inl ⟨by kernel_rfl, fun V hV => ?_⟩
    clear hV
    go_simp
  intro hCf20 hSf20
  clear hCf19 hSf19
  try simp only [Go.Act.put, List.setIfInBounds_toArray, List.set_cons_zero, List.set_cons_succ]
  refine wpAnyS_done (by kernel_rfl) ?_ _
  clear hCf20 hSf20
  go_wp2_with fail
  go_ret
  exact ⟨rfl, G6.out⟩

set_option maxRecDepth 100000 in
set_option maxHeartbeats 1600000 in
theorem near_is (b off cap : Nat) (ss : List Smp) (HS : Hid (SOk ss)) (i j : Nat) (hij : i < j) (hj : j < ss.length) (most : Int) (m0 : 0 ≤ most) (m1 : most ≤ 100000000) (w : World) (hs : SmpsAt w (some ⟨b, off, none⟩) ss) {bb : Bool} (hb : Hid (bb = true ↔ NearP ss i j (most * most))) :
    Calls Try.prog 102 #[.slice (some ⟨b, off, none⟩) ss.length cap, .int .i64 (i : Nat), .int .i64 (j : Nat), .int .i64 most] w fun e w' => e = .returned (.bool bb) ∧ w.grownBy w' none := by
  have hl : (ss.length : Int) ≤ 20000 := HS.out.len
  have HA := Lib.hid hs
  obtain ⟨hsq0, hsq⟩ := sq_most m0 m1
  obtain ⟨M, hM⟩ : ∃ M, most * most = M := ⟨_, rfl⟩
  rw [hM] at hsq hsq0 hb
  have rM : IntKind.i64.wrap (most * most) = M := by rw [hM]; exact IntWalk.i64_in _ (by omega)
  have hi : i < ss.length := by omega
  have i1 : (i : Int) < (ss.length : Int) := by omega
  have j1 : (j : Int) < (ss.length : Int) := by omega
  have i2 : (0 : Int) ≤ (i : Int) := by omega
  have j2 : (0 : Int) ≤ (j : Int) := by omega
  have HM := Lib.hid hM
  clear hs hM hsq hsq0
  go_enter Try.func102, Try.ntmps102
  go_wp2_with fail
  go_loopw [9] (fun iv wr => ∃ (k : Nat), iv = .int .i64 (k : Nat) ∧ i < k ∧ k ≤ j ∧ Hid (∀ n, i < n → n < k → missV (smpD ss i) (smpD ss j) (smpD ss n) ≤ M) ∧ Hid (w.grownBy wr none))
    (fun iv _ => j - (intOf iv).toNat)
  case atStart => exact ⟨i + 1, by go_num, by omega, by omega, fun n a b => absurd b (by omega), grown_refl _ _⟩
  case round =>
    obtain ⟨k, rfl, hik, hkj, hN, hG⟩ := hrel
    by_cases hlt : k < j
    · have hk : k < ss.length := by omega
      have k1 : (k : Int) < (ss.length : Int) := by omega
      have k2 : (0 : Int) ≤ (k : Int) := by omega
      obtain ⟨m, hm⟩ : ∃ m, missV (smpD ss i) (smpD ss j) (smpD ss k) = m := ⟨_, rfl⟩
      have HMV := Lib.hid hm
      have hmb := miss_bd (smpIn_of HS.out hi) (smpIn_of HS.out hj) (smpIn_of HS.out hk) (times_le HS.out (Nat.le_of_lt hik) hk) (times_le HS.out hkj hj) (times_lt HS.out hij hj)
      rw [hm] at hmb
      have SR := Lib.hid (HA.out.grown hG.out)
      have HLT := Lib.hid hlt
      have KM : Hid (∀ V : World, Calls Try.prog 145 #[.agg #[.int .i64 (smpD ss i).t, .int .i64 (smpD ss i).x, .int .i64 (smpD ss i).y, .int .i64 (smpD ss i).z, .int .i64 (smpD ss i).p, .int .i64 (smpD ss i).q, .int .i64 (smpD ss i).s], .agg #[.int .i64 (smpD ss j).t, .int .i64 (smpD ss j).x, .int .i64 (smpD ss j).y, .int .i64 (smpD ss j).z, .int .i64 (smpD ss j).p, .int .i64 (smpD ss j).q, .int .i64 (smpD ss j).s], .agg #[.int .i64 (smpD ss k).t, .int .i64 (smpD ss k).x, .int .i64 (smpD ss k).y, .int .i64 (smpD ss k).z, .int .i64 (smpD ss k).p, .int .i64 (smpD ss k).q, .int .i64 (smpD ss k).s]] V fun e w' => e = .returned (.int .i64 m) ∧ V.grownBy w' none) := fun V => miss_is (smpD ss i) (smpD ss j) (smpD ss k) (smpIn_of HS.out hi) (smpIn_of HS.out hj) (smpIn_of HS.out hk) (times_le HS.out (Nat.le_of_lt hik) hk) (times_le HS.out hkj hj) (times_lt HS.out hij hj) V HMV
      clear hm
      go_wp2_with fail
      have SD : Hid (SmpsAt wr.drew (some ⟨b, off, none⟩) ss) := SR.out.grown (grown_drewN wr none 1)
      have GD : Hid (w.grownBy wr.drew none) := grown_trans hG.out (grown_drewN wr none 1)
      obtain ⟨dm, hdm⟩ : ∃ d, decide (M < m) = d := ⟨_, rfl⟩
      have hdm2 : decide (m > M) = dm := hdm
      have HDM := Lib.hid hdm
      refine region_late (lateK (fun V => SmpsAt V (some ⟨b, off, none⟩) ss) []) (by kernel_rfl) SD.out (fun hC0 hS0 => ?_)
      clear hG SR
      generalize wr.drew = V1 at *
      refine wpAnyS_take (i := 0) (oi := ?oi1) (v := .slice (some ⟨b, off, none⟩) ss.length cap) ?hi1 (by kernel_rfl) (by kernel_rfl) (by kernel_rfl) (lateK_iff (by rfl)) ?hq1 ?hy1 hC0 hS0 ?rest1
      case hi1 => simp only [List.getElem?_toArray, List.getElem?_cons_succ, List.getElem?_cons_zero, Option.some.injEq]; rfl
      case hq1 => exact fun _ _ _ h => h
      case hy1 =>
        refine Or.inl ⟨by kernel_rfl, fun V hV => ?_⟩
        clear hV
        go_simp
      intro hC1 hS1
      clear hC0 hS0
      try simp only [Go.Act.put, List.setIfInBounds_toArray, List.set_cons_zero, List.set_cons_succ]
      refine wpAnyS_take (i := 1) (oi := ?oi2) (v := .int .i64 (i : Nat)) ?hi2 (by kernel_rfl) (by kernel_rfl) (by kernel_rfl) (lateK_iff (by rfl)) ?hq2 ?hy2 hC1 hS1 ?rest2
      case hi2 => simp only [List.getElem?_toArray, List.getElem?_cons_succ, List.getElem?_cons_zero, Option.some.injEq]; rfl
      case hq2 => exact fun _ _ _ h => h
      case hy2 =>
        refine Or.inl ⟨by kernel_rfl, fun V hV => ?_⟩
        clear hV
        go_simp
      intro hC2 hS2
      clear hC1 hS1
      try simp only [Go.Act.put, List.setIfInBounds_toArray, List.set_cons_zero, List.set_cons_succ]
      refine wpAnyS_take (i := 2) (oi := ?oi3) (v := .pointer (some ⟨b, off + i * 7, none⟩)) ?hi3 (by kernel_rfl) (by kernel_rfl) (by kernel_rfl) (lateK_iff (by rfl)) ?hq3 ?hy3 hC2 hS2 ?rest3
      case hi3 => simp only [List.getElem?_toArray, List.getElem?_cons_succ, List.getElem?_cons_zero, Option.some.injEq]; rfl
      case hq3 => exact fun _ _ _ h => h
      case hy3 =>
        refine Or.inl ⟨by kernel_rfl, fun V hV => ?_⟩
        clear hV
        go_simp
      intro hC3 hS3
      clear hC2 hS2
      try simp only [Go.Act.put, List.setIfInBounds_toArray, List.set_cons_zero, List.set_cons_succ]
      refine wpAnyS_take (i := 3) (oi := ?oi4) (v := .agg #[.int .i64 (smpD ss i).t, .int .i64 (smpD ss i).x, .int .i64 (smpD ss i).y, .int .i64 (smpD ss i).z, .int .i64 (smpD ss i).p, .int .i64 (smpD ss i).q, .int .i64 (smpD ss i).s]) ?hi4 (by kernel_rfl) (by kernel_rfl) (by kernel_rfl) (lateK_iff (by rfl)) ?hq4 ?hy4 hC3 hS3 ?rest4
      case hi4 => simp only [List.getElem?_toArray, List.getElem?_cons_succ, List.getElem?_cons_zero, Option.some.injEq]; rfl
      case hq4 => exact fun _ _ _ h => h
      case hy4 =>
        refine Or.inl ⟨by kernel_rfl, fun V hV => ?_⟩
        obtain ⟨p0, p1, p2, p3, p4, p5, p6⟩ := (lateK_g hV).cells _ rfl i hi; rw [← smpD_at hi] at p0 p1 p2 p3 p4 p5 p6; simp only at p0 p1 p2 p3 p4 p5 p6; clear hV
        go_simp
      intro hC4 hS4
      clear hC3 hS3
      try simp only [Go.Act.put, List.setIfInBounds_toArray, List.set_cons_zero, List.set_cons_succ]
      refine wpAnyS_take (i := 4) (oi := ?oi5) (v := .slice (some ⟨b, off, none⟩) ss.length cap) ?hi5 (by kernel_rfl) (by kernel_rfl) (by kernel_rfl) (lateK_iff (by rfl)) ?hq5 ?hy5 hC4 hS4 ?rest5
      case hi5 => simp only [List.getElem?_toArray, List.getElem?_cons_succ, List.getElem?_cons_zero, Option.some.injEq]; rfl
      case hq5 => exact fun _ _ _ h => h
      case hy5 =>
        refine Or.inl ⟨by kernel_rfl, fun V hV => ?_⟩
        clear hV
        go_simp
      intro hC5 hS5
      clear hC4 hS4
      try simp only [Go.Act.put, List.setIfInBounds_toArray, List.set_cons_zero, List.set_cons_succ]
      refine wpAnyS_take (i := 5) (oi := ?oi6) (v := .int .i64 (j : Nat)) ?hi6 (by kernel_rfl) (by kernel_rfl) (by kernel_rfl) (lateK_iff (by rfl)) ?hq6 ?hy6 hC5 hS5 ?rest6
      case hi6 => simp only [List.getElem?_toArray, List.getElem?_cons_succ, List.getElem?_cons_zero, Option.some.injEq]; rfl
      case hq6 => exact fun _ _ _ h => h
      case hy6 =>
        refine Or.inl ⟨by kernel_rfl, fun V hV => ?_⟩
        clear hV
        go_simp
      intro hC6 hS6
      clear hC5 hS5
      try simp only [Go.Act.put, List.setIfInBounds_toArray, List.set_cons_zero, List.set_cons_succ]
      refine wpAnyS_take (i := 6) (oi := ?oi7) (v := .pointer (some ⟨b, off + j * 7, none⟩)) ?hi7 (by kernel_rfl) (by kernel_rfl) (by kernel_rfl) (lateK_iff (by rfl)) ?hq7 ?hy7 hC6 hS6 ?rest7
      case hi7 => simp only [List.getElem?_toArray, List.getElem?_cons_succ, List.getElem?_cons_zero, Option.some.injEq]; rfl
      case hq7 => exact fun _ _ _ h => h
      case hy7 =>
        refine Or.inl ⟨by kernel_rfl, fun V hV => ?_⟩
        clear hV
        go_simp
      intro hC7 hS7
      clear hC6 hS6
      try simp only [Go.Act.put, List.setIfInBounds_toArray, List.set_cons_zero, List.set_cons_succ]
      refine wpAnyS_take (i := 7) (oi := ?oi8) (v := .agg #[.int .i64 (smpD ss j).t, .int .i64 (smpD ss j).x, .int .i64 (smpD ss j).y, .int .i64 (smpD ss j).z, .int .i64 (smpD ss j).p, .int .i64 (smpD ss j).q, .int .i64 (smpD ss j).s]) ?hi8 (by kernel_rfl) (by kernel_rfl) (by kernel_rfl) (lateK_iff (by rfl)) ?hq8 ?hy8 hC7 hS7 ?rest8
      case hi8 => simp only [List.getElem?_toArray, List.getElem?_cons_succ, List.getElem?_cons_zero, Option.some.injEq]; rfl
      case hq8 => exact fun _ _ _ h => h
      case hy8 =>
        refine Or.inl ⟨by kernel_rfl, fun V hV => ?_⟩
        obtain ⟨q0, q1, q2, q3, q4, q5, q6⟩ := (lateK_g hV).cells _ rfl j hj; rw [← smpD_at hj] at q0 q1 q2 q3 q4 q5 q6; simp only at q0 q1 q2 q3 q4 q5 q6; clear hV
        go_simp
      intro hC8 hS8
      clear hC7 hS7
      try simp only [Go.Act.put, List.setIfInBounds_toArray, List.set_cons_zero, List.set_cons_succ]
      refine wpAnyS_take (i := 8) (oi := ?oi9) (v := .slice (some ⟨b, off, none⟩) ss.length cap) ?hi9 (by kernel_rfl) (by kernel_rfl) (by kernel_rfl) (lateK_iff (by rfl)) ?hq9 ?hy9 hC8 hS8 ?rest9
      case hi9 => simp only [List.getElem?_toArray, List.getElem?_cons_succ, List.getElem?_cons_zero, Option.some.injEq]; rfl
      case hq9 => exact fun _ _ _ h => h
      case hy9 =>
        refine Or.inl ⟨by kernel_rfl, fun V hV => ?_⟩
        clear hV
        go_simp
      intro hC9 hS9
      clear hC8 hS8
      try simp only [Go.Act.put, List.setIfInBounds_toArray, List.set_cons_zero, List.set_cons_succ]
      refine wpAnyS_take (i := 9) (oi := ?oi10) (v := .int .i64 (k : Nat)) ?hi10 (by kernel_rfl) (by kernel_rfl) (by kernel_rfl) (lateK_iff (by rfl)) ?hq10 ?hy10 hC9 hS9 ?rest10
      case hi10 => simp only [List.getElem?_toArray, List.getElem?_cons_succ, List.getElem?_cons_zero, Option.some.injEq]; rfl
      case hq10 => exact fun _ _ _ h => h
      case hy10 =>
        refine Or.inl ⟨by kernel_rfl, fun V hV => ?_⟩
        clear hV
        go_simp
      intro hC10 hS10
      clear hC9 hS9
      try simp only [Go.Act.put, List.setIfInBounds_toArray, List.set_cons_zero, List.set_cons_succ]
      refine wpAnyS_take (i := 10) (oi := ?oi11) (v := .pointer (some ⟨b, off + k * 7, none⟩)) ?hi11 (by kernel_rfl) (by kernel_rfl) (by kernel_rfl) (lateK_iff (by rfl)) ?hq11 ?hy11 hC10 hS10 ?rest11
      case hi11 => simp only [List.getElem?_toArray, List.getElem?_cons_succ, List.getElem?_cons_zero, Option.some.injEq]; rfl
      case hq11 => exact fun _ _ _ h => h
      case hy11 =>
        refine Or.inl ⟨by kernel_rfl, fun V hV => ?_⟩
        clear hV
        go_simp
      intro hC11 hS11
      clear hC10 hS10
      try simp only [Go.Act.put, List.setIfInBounds_toArray, List.set_cons_zero, List.set_cons_succ]
      refine wpAnyS_take (i := 11) (oi := ?oi12) (v := .agg #[.int .i64 (smpD ss k).t, .int .i64 (smpD ss k).x, .int .i64 (smpD ss k).y, .int .i64 (smpD ss k).z, .int .i64 (smpD ss k).p, .int .i64 (smpD ss k).q, .int .i64 (smpD ss k).s]) ?hi12 (by kernel_rfl) (by kernel_rfl) (by kernel_rfl) (lateK_iff (by rfl)) ?hq12 ?hy12 hC11 hS11 ?rest12
      case hi12 => simp only [List.getElem?_toArray, List.getElem?_cons_succ, List.getElem?_cons_zero, Option.some.injEq]; rfl
      case hq12 => exact fun _ _ _ h => h
      case hy12 =>
        refine Or.inl ⟨by kernel_rfl, fun V hV => ?_⟩
        obtain ⟨x0, x1, x2, x3, x4, x5, x6⟩ := (lateK_g hV).cells _ rfl k hk; rw [← smpD_at hk] at x0 x1 x2 x3 x4 x5 x6; simp only at x0 x1 x2 x3 x4 x5 x6; clear hV
        go_simp
      intro hC12 hS12
      clear hC11 hS11
      try simp only [Go.Act.put, List.setIfInBounds_toArray, List.set_cons_zero, List.set_cons_succ]
      refine wpAnyS_take (i := 13) (oi := ?oi13) (v := .int .i64 most) ?hi13 (by kernel_rfl) (by kernel_rfl) (by kernel_rfl) (lateK_iff (by rfl)) ?hq13 ?hy13 hC12 hS12 ?rest13
      case hi13 => simp only [List.getElem?_toArray, List.getElem?_cons_succ, List.getElem?_cons_zero, Option.some.injEq]; rfl
      case hq13 => exact fun _ _ _ h => h
      case hy13 =>
        refine Or.inl ⟨by kernel_rfl, fun V hV => ?_⟩
        clear hV
        go_simp
      intro hC13 hS13
      clear hC12 hS12
      try simp only [Go.Act.put, List.setIfInBounds_toArray, List.set_cons_zero, List.set_cons_succ]
      refine wpAnyS_take (i := 14) (oi := ?oi14) (v := .int .i64 most) ?hi14 (by kernel_rfl) (by kernel_rfl) (by kernel_rfl) (lateK_iff (by rfl)) ?hq14 ?hy14 hC13 hS13 ?rest14
      case hi14 => simp only [List.getElem?_toArray, List.getElem?_cons_succ, List.getElem?_cons_zero, Option.some.injEq]; rfl
      case hq14 => exact fun _ _ _ h => h
      case hy14 =>
        refine Or.inl ⟨by kernel_rfl, fun V hV => ?_⟩
        clear hV
        go_simp
      intro hC14 hS14
      clear hC13 hS13
      try simp only [Go.Act.put, List.setIfInBounds_toArray, List.set_cons_zero, List.set_cons_succ]
      refine wpAnyS_take (i := 15) (oi := ?oi15) (v := .int .i64 M) ?hi15 (by kernel_rfl) (by kernel_rfl) (by kernel_rfl) (lateK_iff (by rfl)) ?hq15 ?hy15 hC14 hS14 ?rest15
      case hi15 => simp only [List.getElem?_toArray, List.getElem?_cons_succ, List.getElem?_cons_zero, Option.some.injEq]; rfl
      case hq15 => exact fun _ _ _ h => h
      case hy15 =>
        refine Or.inl ⟨by kernel_rfl, fun V hV => ?_⟩
        clear hV
        go_simp
      intro hC15 hS15
      clear hC14 hS14
      try simp only [Go.Act.put, List.setIfInBounds_toArray, List.set_cons_zero, List.set_cons_succ]
      refine wpAnyS_ready (rs := [12]) (by kernel_rfl) (by simp) ?_
      refine AllReadyS.cons rfl hC15 (fun K hK => ?_) AllReadyS.nil
      go_simp
      refine (KM.out _).mono ?_
      rintro e w5 ⟨rfl, hg5⟩
      have S5 := Lib.hid (SD.out.grown hg5)
      have G5 := Lib.hid (grown_trans GD.out hg5)
      refine hK.out _ _ S5.out (fun hC16 hS16 => ?_)
      clear hK hC15 hS15 K
      clear hg5 SD GD
      try simp only [Go.Act.put, List.setIfInBounds_toArray, List.set_cons_zero, List.set_cons_succ]
      refine wpAnyS_take (i := 16) (oi := ?oi17) (v := .bool dm) ?hi17 (by kernel_rfl) (by kernel_rfl) (by kernel_rfl) (lateK_iff (by rfl)) ?hq17 ?hy17 hC16 hS16 ?rest17
      case hi17 => simp only [List.getElem?_toArray, List.getElem?_cons_succ, List.getElem?_cons_zero, Option.some.injEq]; rfl
      case hq17 => exact fun _ _ _ h => h
      case hy17 =>
        refine Or.inl ⟨by kernel_rfl, fun V hV => ?_⟩
        clear hV
        go_simp
      intro hC17 hS17
      clear hC16 hS16
      try simp only [Go.Act.put, List.setIfInBounds_toArray, List.set_cons_zero, List.set_cons_succ]
      refine wpAnyS_done (by kernel_rfl) ?_ _
      clear hC17 hS17
      clear hdm hdm2 S5
      cases dm
      · have hle : m ≤ M := by have := HDM.out; simp at this; exact this
        have HN2 : Hid (∀ n, i < n → n < k + 1 → missV (smpD ss i) (smpD ss j) (smpD ss n) ≤ M) := fun n a b => by
          rcases Nat.lt_or_ge n k with q | q
          · exact hN.out n a q
          · obtain rfl : n = k := by omega
            rw [HMV.out]; exact hle
        clear hN
        go_wp2_with fail
        go_roundw
        case rel => exact ⟨k + 1, by go_num, by omega, by have := HLT.out; omega, HN2, G5⟩
        case measure => have := HLT.out; simp [intOf]; omega
      · have hgt : M < m := by have := HDM.out; simpa using this
        obtain rfl : bb = false := by
          cases bb with
          | false => rfl
          | true => have q := hb.out.1 rfl k hik HLT.out; rw [HMV.out] at q; omega
        clear hN
        go_wp2_with fail
        go_ret
        exact ⟨rfl, G5.out⟩
    · obtain rfl : k = j := by omega
      obtain rfl : bb = true := hb.out.2 hN.out
      clear hN
      go_wp2_with fail
      go_ret
      exact ⟨rfl, hG.out⟩

set_option maxRecDepth 100000 in
set_option maxHeartbeats 1600000 in
theorem stands_is (b off cap : Nat) (ss : List Smp) (HS : Hid (SOk ss)) (i j : Nat) (hij : i < j) (hj : j < ss.length) (most : Int) (m0 : 0 ≤ most) (m1 : most ≤ 100000000) (w : World) (hs : SmpsAt w (some ⟨b, off, none⟩) ss) {bb : Bool} (hb : Hid (bb = true ↔ NearP ss i j (most * most))) :
    Calls Try.prog 104 #[.slice (some ⟨b, off, none⟩) ss.length cap, .int .i64 (i : Nat), .int .i64 (j : Nat), .int .i64 most] w fun e w' => e = .returned (.bool bb) ∧ w.grownBy w' none := by
  have hl : (ss.length : Int) ≤ 20000 := HS.out.len
  have HA := Lib.hid hs
  obtain ⟨hsq0, hsq⟩ := sq_most m0 m1
  obtain ⟨M, hM⟩ : ∃ M, most * most = M := ⟨_, rfl⟩
  rw [hM] at hsq hsq0 hb
  have rM : IntKind.i64.wrap (most * most) = M := by rw [hM]; exact IntWalk.i64_in _ (by omega)
  have hi : i < ss.length := by omega
  have i1 : (i : Int) < (ss.length : Int) := by omega
  have j1 : (j : Int) < (ss.length : Int) := by omega
  have i2 : (0 : Int) ≤ (i : Int) := by omega
  have j2 : (0 : Int) ≤ (j : Int) := by omega
  have HM := Lib.hid hM
  clear hs hM hsq hsq0
  go_enter Try.func104, Try.ntmps104
  go_wp2_with fail
  go_loopw [9] (fun iv wr => ∃ (k : Nat), iv = .int .i64 (k : Nat) ∧ i < k ∧ k ≤ j ∧ Hid (∀ n, i < n → n < k → missV (smpD ss i) (smpD ss j) (smpD ss n) ≤ M) ∧ Hid (w.grownBy wr none))
    (fun iv _ => j - (intOf iv).toNat)
  case atStart => exact ⟨i + 1, by go_num, by omega, by omega, fun n a b => absurd b (by omega), grown_refl _ _⟩
  case round =>
    obtain ⟨k, rfl, hik, hkj, hN, hG⟩ := hrel
    by_cases hlt : k < j
    · have hk : k < ss.length := by omega
      have k1 : (k : Int) < (ss.length : Int) := by omega
      have k2 : (0 : Int) ≤ (k : Int) := by omega
      obtain ⟨m, hm⟩ : ∃ m, missV (smpD ss i) (smpD ss j) (smpD ss k) = m := ⟨_, rfl⟩
      have HMV := Lib.hid hm
      have hmb := miss_bd (smpIn_of HS.out hi) (smpIn_of HS.out hj) (smpIn_of HS.out hk) (times_le HS.out (Nat.le_of_lt hik) hk) (times_le HS.out hkj hj) (times_lt HS.out hij hj)
      rw [hm] at hmb
      have SR := Lib.hid (HA.out.grown hG.out)
      have HLT := Lib.hid hlt
      clear hm
      go_wp2_with fail
      refine (fault_is b off cap ss HS i k j hi hk hj (Nat.le_of_lt hik) hkj hij _ SR.out HMV).mono ?_; rintro e w5 ⟨rfl, hg5⟩
      have G5 := Lib.hid (grown_trans hG.out hg5)
      clear hg5 hG SR
      by_cases hle : m ≤ M
      · have gd : decide (M < m) = false := by simpa using hle
        have HN2 : Hid (∀ n, i < n → n < k + 1 → missV (smpD ss i) (smpD ss j) (smpD ss n) ≤ M) := fun n a b => by
          rcases Nat.lt_or_ge n k with q | q
          · exact hN.out n a q
          · obtain rfl : n = k := by omega
            rw [HMV.out]; exact hle
        clear hN
        go_wp2_with fail
        go_roundw
        case rel => exact ⟨k + 1, by go_num, by omega, by have := HLT.out; omega, HN2, G5⟩
        case measure => have := HLT.out; simp [intOf]; omega
      · have gd : decide (M < m) = true := by simp; omega
        obtain rfl : bb = false := by
          cases bb with
          | false => rfl
          | true => have q := hb.out.1 rfl k hik HLT.out; rw [HMV.out] at q; omega
        clear hN
        go_wp2_with fail
        go_ret
        exact ⟨rfl, G5.out⟩
    · obtain rfl : k = j := by omega
      obtain rfl : bb = true := hb.out.2 hN.out
      clear hN
      go_wp2_with fail
      go_ret
      exact ⟨rfl, hG.out⟩

end Go.Proofs.Ytgkhhfojioepgaa
