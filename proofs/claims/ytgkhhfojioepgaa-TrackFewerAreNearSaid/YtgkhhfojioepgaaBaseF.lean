/- Texts that all laws of this seat use, one behind the other. -/
import Derived.Test.YtgkhhfojioepgaaBaseE
import Derived.Test.YtgkhhfojioepgaaBaseD
import Derived.Test.YtgkhhfojioepgaaBaseB
import Derived.Test.YtgkhhfojioepgaaBaseC
import Derived.Deep.DeepCutAuto
import Derived.Deep.CutBlock
namespace Go.Proofs.Ytgkhhfojioepgaa
open Go.RowKit
set_option linter.unusedSimpArgs false
set_option linter.unusedVariables false

attribute [local go_sem] Oper.semAt_some

set_option maxRecDepth 100000 in
set_option maxHeartbeats 1600000 in
theorem miss_is (p q x : Smp) (hp : SmpIn p) (hq : SmpIn q) (hx : SmpIn x) (h0 : p.t ≤ x.t) (h1 : x.t ≤ q.t) (hpq : p.t < q.t) (w : World) {m : Int} (hm : Hid (missV p q x = m)) :
    Calls Try.prog 145 #[.agg #[.int .i64 p.t, .int .i64 p.x, .int .i64 p.y, .int .i64 p.z, .int .i64 p.p, .int .i64 p.q, .int .i64 p.s], .agg #[.int .i64 q.t, .int .i64 q.x, .int .i64 q.y, .int .i64 q.z, .int .i64 q.p, .int .i64 q.q, .int .i64 q.s], .agg #[.int .i64 x.t, .int .i64 x.x, .int .i64 x.y, .int .i64 x.z, .int .i64 x.p, .int .i64 x.q, .int .i64 x.s]] w fun e w' => e = .returned (.int .i64 m) ∧ w.grownBy w' none := by
  obtain ⟨o, ho⟩ : ∃ o, onV p q x.t = o := ⟨_, rfl⟩
  have KO : Hid (∀ V : World, Calls Try.prog 119 #[.agg #[.int .i64 p.t, .int .i64 p.x, .int .i64 p.y, .int .i64 p.z, .int .i64 p.p, .int .i64 p.q, .int .i64 p.s], .agg #[.int .i64 q.t, .int .i64 q.x, .int .i64 q.y, .int .i64 q.z, .int .i64 q.p, .int .i64 q.q, .int .i64 q.s], .int .i64 x.t] V fun e w' => e = .returned (.agg #[.int .i64 o.t, .int .i64 o.x, .int .i64 o.y, .int .i64 o.z, .int .i64 o.p, .int .i64 o.q, .int .i64 o.s]) ∧ V.grownBy w' none) := fun V => onStep_is p q x.t hp hq h0 h1 hpq V (Lib.hid ho)
  have KS : Hid (∀ V : World, Calls Try.prog 134 #[.agg #[.int .i64 o.t, .int .i64 o.x, .int .i64 o.y, .int .i64 o.z, .int .i64 o.p, .int .i64 o.q, .int .i64 o.s], .agg #[.int .i64 x.t, .int .i64 x.x, .int .i64 x.y, .int .i64 x.z, .int .i64 x.p, .int .i64 x.q, .int .i64 x.s]] V fun e w' => e = .returned (.int .i64 m) ∧ V.grownBy w' none) := fun V => square_is o x (by rw [← ho]; exact on_plane hp hq h0 h1 hpq) hx.2.1 V (by show _ = _; rw [← hm.out, ← ho]; rfl)
  clear hm ho hp hq hx h0 h1 hpq
  obtain ⟨pt, px, py, pz, pp, pq, ps⟩ := p
  obtain ⟨qt, qx, qy, qz, qp, qq, qs⟩ := q
  obtain ⟨xt, xx, xy, xz, xp, xq, xs⟩ := x
  simp only at KO KS ⊢
  have H3 : Hid (∀ V, (((w.alloc (.cells #[.int .i64 pt, .int .i64 px, .int .i64 py, .int .i64 pz, .int .i64 pp, .int .i64 pq, .int .i64 ps] 28)).alloc (.cells #[.int .i64 qt, .int .i64 qx, .int .i64 qy, .int .i64 qz, .int .i64 qp, .int .i64 qq, .int .i64 qs] 28)).alloc (.cells #[.int .i64 xt, .int .i64 xx, .int .i64 xy, .int .i64 xz, .int .i64 xp, .int .i64 xq, .int .i64 xs] 28)).grownBy V none → V.heap[w.heap.size]? = some (.cells #[.int .i64 pt, .int .i64 px, .int .i64 py, .int .i64 pz, .int .i64 pp, .int .i64 pq, .int .i64 ps] 28 (0, 0)) ∧ V.heap[w.heap.size + 1]? = some (.cells #[.int .i64 qt, .int .i64 qx, .int .i64 qy, .int .i64 qz, .int .i64 qp, .int .i64 qq, .int .i64 qs] 28 (0, 0)) ∧ V.heap[w.heap.size + 2]? = some (.cells #[.int .i64 xt, .int .i64 xx, .int .i64 xy, .int .i64 xz, .int .i64 xp, .int .i64 xq, .int .i64 xs] 28 (0, 0))) := fun V g => by
    refine ⟨?_, ?_, ?_⟩
    · rw [g.block _ (by simp; omega) (by simp), Below.heap_alloc _ _ _ (by simp; omega), Below.heap_alloc _ _ _ (by simp)]; exact heap_alloc_new w _
    · rw [g.block _ (by simp) (by simp), Below.heap_alloc _ _ _ (by simp)]
      have := heap_alloc_new (w.alloc (.cells #[.int .i64 pt, .int .i64 px, .int .i64 py, .int .i64 pz, .int .i64 pp, .int .i64 pq, .int .i64 ps] 28)) (.cells #[.int .i64 qt, .int .i64 qx, .int .i64 qy, .int .i64 qz, .int .i64 qp, .int .i64 qq, .int .i64 qs] 28); simpa using this
    · rw [g.block _ (by simp) (by simp)]
      have := heap_alloc_new ((w.alloc (.cells #[.int .i64 pt, .int .i64 px, .int .i64 py, .int .i64 pz, .int .i64 pp, .int .i64 pq, .int .i64 ps] 28)).alloc (.cells #[.int .i64 qt, .int .i64 qx, .int .i64 qy, .int .i64 qz, .int .i64 qp, .int .i64 qq, .int .i64 qs] 28)) (.cells #[.int .i64 xt, .int .i64 xx, .int .i64 xy, .int .i64 xz, .int .i64 xp, .int .i64 xq, .int .i64 xs] 28); simpa using this
  have GB := Lib.hid (grown_trans (grown_trans (World.grownBy_alloc w (.cells #[.int .i64 pt, .int .i64 px, .int .i64 py, .int .i64 pz, .int .i64 pp, .int .i64 pq, .int .i64 ps] 28) none) (World.grownBy_alloc _ (.cells #[.int .i64 qt, .int .i64 qx, .int .i64 qy, .int .i64 qz, .int .i64 qp, .int .i64 qq, .int .i64 qs] 28) none)) (World.grownBy_alloc _ (.cells #[.int .i64 xt, .int .i64 xx, .int .i64 xy, .int .i64 xz, .int .i64 xp, .int .i64 xq, .int .i64 xs] 28) none))
  go_enter Try.func145, Try.ntmps145
  go_wp2_with fail
  obtain ⟨W, hW⟩ : ∃ W, ((w.alloc (.cells #[.int .i64 pt, .int .i64 px, .int .i64 py, .int .i64 pz, .int .i64 pp, .int .i64 pq, .int .i64 ps] 28)).alloc (.cells #[.int .i64 qt, .int .i64 qx, .int .i64 qy, .int .i64 qz, .int .i64 qp, .int .i64 qq, .int .i64 qs] 28)).alloc (.cells #[.int .i64 xt, .int .i64 xx, .int .i64 xy, .int .i64 xz, .int .i64 xp, .int .i64 xq, .int .i64 xs] 28) = W := ⟨_, rfl⟩
  rw [hW] at H3 GB ⊢
  clear hW
  have GD : Hid (W.grownBy W.drew none) := grown_drewN W none 1
  refine region_late (lateK (fun V => W.grownBy V none) []) (by kernel_rfl) GD.out (fun hC0 hS0 => ?_)
  generalize W.drew = V1 at *
  refine wpAnyS_take (i := 0) (oi := ?oi1) (v := .agg #[.int .i64 pt, .int .i64 px, .int .i64 py, .int .i64 pz, .int .i64 pp, .int .i64 pq, .int .i64 ps]) ?hi1 (by kernel_rfl) (by kernel_rfl) (by kernel_rfl) (lateK_iff (by rfl)) ?hq1 ?hy1 hC0 hS0 ?rest1
  case hi1 => simp only [List.getElem?_toArray, List.getElem?_cons_succ, List.getElem?_cons_zero, Option.some.injEq]; rfl
  case hq1 => exact fun _ _ _ h => h
  case hy1 =>
    refine Or.inl ⟨by kernel_rfl, fun V hV => ?_⟩
    obtain ⟨hh0, hh1, hh2⟩ := H3.out V (lateK_g hV); have p0 := block_cell hh0 0 _ rfl; have p1 := block_cell hh0 1 _ rfl; have p2 := block_cell hh0 2 _ rfl; have p3 := block_cell hh0 3 _ rfl; have p4 := block_cell hh0 4 _ rfl; have p5 := block_cell hh0 5 _ rfl; have p6 := block_cell hh0 6 _ rfl; clear hh0 hh1 hh2; clear hV
    go_simp
  intro hC1 hS1
  clear hC0 hS0
  try simp only [Go.Act.put, List.setIfInBounds_toArray, List.set_cons_zero, List.set_cons_succ]
  refine wpAnyS_take (i := 1) (oi := ?oi2) (v := .agg #[.int .i64 qt, .int .i64 qx, .int .i64 qy, .int .i64 qz, .int .i64 qp, .int .i64 qq, .int .i64 qs]) ?hi2 (by kernel_rfl) (by kernel_rfl) (by kernel_rfl) (lateK_iff (by rfl)) ?hq2 ?hy2 hC1 hS1 ?rest2
  case hi2 => simp only [List.getElem?_toArray, List.getElem?_cons_succ, List.getElem?_cons_zero, Option.some.injEq]; rfl
  case hq2 => exact fun _ _ _ h => h
  case hy2 =>
    refine Or.inl ⟨by kernel_rfl, fun V hV => ?_⟩
    obtain ⟨hh0, hh1, hh2⟩ := H3.out V (lateK_g hV); have q0 := block_cell hh1 0 _ rfl; have q1 := block_cell hh1 1 _ rfl; have q2 := block_cell hh1 2 _ rfl; have q3 := block_cell hh1 3 _ rfl; have q4 := block_cell hh1 4 _ rfl; have q5 := block_cell hh1 5 _ rfl; have q6 := block_cell hh1 6 _ rfl; clear hh0 hh1 hh2; clear hV
    go_simp
  intro hC2 hS2
  clear hC1 hS1
  try simp only [Go.Act.put, List.setIfInBounds_toArray, List.set_cons_zero, List.set_cons_succ]
  refine wpAnyS_take (i := 2) (oi := ?oi3) (v := .pointer (some ⟨w.heap.size + 2, 0, none⟩)) ?hi3 (by kernel_rfl) (by kernel_rfl) (by kernel_rfl) (lateK_iff (by rfl)) ?hq3 ?hy3 hC2 hS2 ?rest3
  case hi3 => simp only [List.getElem?_toArray, List.getElem?_cons_succ, List.getElem?_cons_zero, Option.some.injEq]; rfl
  case hq3 => exact fun _ _ _ h => h
  case hy3 =>
    refine Or.inl ⟨by kernel_rfl, fun V hV => ?_⟩
    clear hV
    go_simp
  intro hC3 hS3
  clear hC2 hS2
  try simp only [Go.Act.put, List.setIfInBounds_toArray, List.set_cons_zero, List.set_cons_succ]
  refine wpAnyS_take (i := 3) (oi := ?oi4) (v := .int .i64 xt) ?hi4 (by kernel_rfl) (by kernel_rfl) (by kernel_rfl) (lateK_iff (by rfl)) ?hq4 ?hy4 hC3 hS3 ?rest4
  case hi4 => simp only [List.getElem?_toArray, List.getElem?_cons_succ, List.getElem?_cons_zero, Option.some.injEq]; rfl
  case hq4 => exact fun _ _ _ h => h
  case hy4 =>
    refine Or.inl ⟨by kernel_rfl, fun V hV => ?_⟩
    obtain ⟨hh0, hh1, hh2⟩ := H3.out V (lateK_g hV); have x0 := block_cell hh2 0 _ rfl; have x1 := block_cell hh2 1 _ rfl; have x2 := block_cell hh2 2 _ rfl; have x3 := block_cell hh2 3 _ rfl; have x4 := block_cell hh2 4 _ rfl; have x5 := block_cell hh2 5 _ rfl; have x6 := block_cell hh2 6 _ rfl; clear hh0 hh1 hh2; clear hV
    go_simp
  intro hC4 hS4
  clear hC3 hS3
  try simp only [Go.Act.put, List.setIfInBounds_toArray, List.set_cons_zero, List.set_cons_succ]
  refine wpAnyS_take (i := 5) (oi := ?oi5) (v := .agg #[.int .i64 xt, .int .i64 xx, .int .i64 xy, .int .i64 xz, .int .i64 xp, .int .i64 xq, .int .i64 xs]) ?hi5 (by kernel_rfl) (by kernel_rfl) (by kernel_rfl) (lateK_iff (by rfl)) ?hq5 ?hy5 hC4 hS4 ?rest5
  case hi5 => simp only [List.getElem?_toArray, List.getElem?_cons_succ, List.getElem?_cons_zero, Option.some.injEq]; rfl
  case hq5 => exact fun _ _ _ h => h
  case hy5 =>
    refine Or.inl ⟨by kernel_rfl, fun V hV => ?_⟩
    obtain ⟨hh0, hh1, hh2⟩ := H3.out V (lateK_g hV); have x0 := block_cell hh2 0 _ rfl; have x1 := block_cell hh2 1 _ rfl; have x2 := block_cell hh2 2 _ rfl; have x3 := block_cell hh2 3 _ rfl; have x4 := block_cell hh2 4 _ rfl; have x5 := block_cell hh2 5 _ rfl; have x6 := block_cell hh2 6 _ rfl; clear hh0 hh1 hh2; clear hV
    go_simp
  intro hC5 hS5
  clear hC4 hS4
  try simp only [Go.Act.put, List.setIfInBounds_toArray, List.set_cons_zero, List.set_cons_succ]
  refine wpAnyS_ready (rs := [4]) (by kernel_rfl) (by simp) ?_
  refine AllReadyS.cons rfl hC5 (fun K hK => ?_) AllReadyS.nil
  go_simp
  refine (KO.out _).mono ?_
  rintro e w5 ⟨rfl, hg5⟩
  have G5 := Lib.hid (grown_trans GD.out hg5)
  refine hK.out _ _ G5.out (fun hC6 hS6 => ?_)
  clear hK hC5 hS5 K
  clear hg5 GD
  try simp only [Go.Act.put, List.setIfInBounds_toArray, List.set_cons_zero, List.set_cons_succ]
  refine wpAnyS_ready (rs := [6]) (by kernel_rfl) (by simp) ?_
  refine AllReadyS.cons rfl hC6 (fun K hK => ?_) AllReadyS.nil
  go_simp
  refine (KS.out _).mono ?_
  rintro e w6 ⟨rfl, hg6⟩
  have G6 := Lib.hid (grown_trans G5.out hg6)
  refine hK.out _ _ G6.out (fun hC7 hS7 => ?_)
  clear hK hC6 hS6 K
  clear hg6 G5
  try simp only [Go.Act.put, List.setIfInBounds_toArray, List.set_cons_zero, List.set_cons_succ]
  refine wpAnyS_take (i := 7) (oi := ?oi8) (v := .int .i64 m) ?hi8 (by kernel_rfl) (by kernel_rfl) (by kernel_rfl) (lateK_iff (by rfl)) ?hq8 ?hy8 hC7 hS7 ?rest8
  case hi8 => simp only [List.getElem?_toArray, List.getElem?_cons_succ, List.getElem?_cons_zero, Option.some.injEq]; rfl
  case hq8 => exact fun _ _ _ h => h
  case hy8 =>
    refine Or.inl ⟨by kernel_rfl, fun V hV => ?_⟩
    clear hV
    go_simp
  intro hC8 hS8
  clear hC7 hS7
  try simp only [Go.Act.put, List.setIfInBounds_toArray, List.set_cons_zero, List.set_cons_succ]
  refine wpAnyS_done (by kernel_rfl) ?_ _
  clear hC8 hS8
  go_wp2_with fail
  go_ret
  exact ⟨rfl, grown_trans GB.out G6.out⟩

set_option maxRecDepth 100000 in
set_option maxHeartbeats 1600000 in
theorem fault_is (b off cap : Nat) (ss : List Smp) (HS : Hid (SOk ss)) (i k j : Nat) (hi : i < ss.length) (hk : k < ss.length) (hj : j < ss.length) (hik : i ≤ k) (hkj : k ≤ j) (hij : i < j) (w : World) (hs : SmpsAt w (some ⟨b, off, none⟩) ss) {m : Int} (hm : Hid (missV (smpD ss i) (smpD ss j) (smpD ss k) = m)) :
    Calls Try.prog 146 #[.slice (some ⟨b, off, none⟩) ss.length cap, .int .i64 (i : Nat), .int .i64 (k : Nat), .int .i64 (j : Nat)] w fun e w' => e = .returned (.int .i64 m) ∧ w.grownBy w' none := by
  have hl : (ss.length : Int) ≤ 20000 := HS.out.len
  have hpi := smpIn_of HS.out hi; have hqi := smpIn_of HS.out hj; have hxi := smpIn_of HS.out hk
  have t0 := times_le HS.out hik hk; have t1 := times_le HS.out hkj hj; have t2 := times_lt HS.out hij hj
  obtain ⟨o, ho⟩ : ∃ o, onV (smpD ss i) (smpD ss j) (smpD ss k).t = o := ⟨_, rfl⟩
  have KO : Hid (∀ V : World, Calls Try.prog 124 #[.agg #[.int .i64 (smpD ss i).t, .int .i64 (smpD ss i).x, .int .i64 (smpD ss i).y, .int .i64 (smpD ss i).z, .int .i64 (smpD ss i).p, .int .i64 (smpD ss i).q, .int .i64 (smpD ss i).s], .agg #[.int .i64 (smpD ss j).t, .int .i64 (smpD ss j).x, .int .i64 (smpD ss j).y, .int .i64 (smpD ss j).z, .int .i64 (smpD ss j).p, .int .i64 (smpD ss j).q, .int .i64 (smpD ss j).s], .int .i64 (smpD ss k).t] V fun e w' => e = .returned (.agg #[.int .i64 o.t, .int .i64 o.x, .int .i64 o.y, .int .i64 o.z, .int .i64 o.p, .int .i64 o.q, .int .i64 o.s]) ∧ V.grownBy w' none) := fun V => rat_is (smpD ss i) (smpD ss j) _ hpi hqi t0 t1 t2 V (Lib.hid ho)
  have KS : Hid (∀ V : World, Calls Try.prog 108 #[.agg #[.int .i64 o.t, .int .i64 o.x, .int .i64 o.y, .int .i64 o.z, .int .i64 o.p, .int .i64 o.q, .int .i64 o.s], .agg #[.int .i64 (smpD ss k).t, .int .i64 (smpD ss k).x, .int .i64 (smpD ss k).y, .int .i64 (smpD ss k).z, .int .i64 (smpD ss k).p, .int .i64 (smpD ss k).q, .int .i64 (smpD ss k).s]] V fun e w' => e = .returned (.int .i64 m) ∧ V.grownBy w' none) := fun V => apart_is o (smpD ss k) (by rw [← ho]; exact on_plane hpi hqi t0 t1 t2) hxi.2.1 V (by show _ = _; rw [← hm.out, ← ho]; rfl)
  have i1 : (i : Int) < (ss.length : Int) := by omega
  have j1 : (j : Int) < (ss.length : Int) := by omega
  have k1 : (k : Int) < (ss.length : Int) := by omega
  have i2 : (0 : Int) ≤ (i : Int) := by omega
  have j2 : (0 : Int) ≤ (j : Int) := by omega
  have k2 : (0 : Int) ≤ (k : Int) := by omega
  have HA := Lib.hid hs
  clear hm ho hpi hqi hxi t0 t1 t2 hs hik hkj hij
  go_enter Try.func146, Try.ntmps146
  go_wp2_with fail
  have SD : Hid (SmpsAt w.drew (some ⟨b, off, none⟩) ss) := HA.out.grown (grown_drewN w none 1)
  have GD : Hid (w.grownBy w.drew none) := grown_drewN w none 1
  refine region_late (lateK (fun V => SmpsAt V (some ⟨b, off, none⟩) ss) []) (by kernel_rfl) SD.out (fun hCf0 hSf0 => ?_)
  generalize w.drew = V1 at *
  refine wpAnyS_take (i := 0) (oi := ?oif1) (v := .slice (some ⟨b, off, none⟩) ss.length cap) ?hif1 (by kernel_rfl) (by kernel_rfl) (by kernel_rfl) (lateK_iff (by rfl)) ?hqf1 ?hyf1 hCf0 hSf0 ?restf1
  case hif1 => simp only [List.getElem?_toArray, List.getElem?_cons_succ, List.getElem?_cons_zero, Option.some.injEq]; rfl
  case hqf1 => exact fun _ _ _ h => h
  case hyf1 =>
    refine Or.inl ⟨by kernel_rfl, fun V hV => ?_⟩
    clear hV
    go_simp
  intro hCf1 hSf1
  clear hCf0 hSf0
  try simp only [Go.Act.put, List.setIfInBounds_toArray, List.set_cons_zero, List.set_cons_succ]
  refine wpAnyS_take (i := 1) (oi := ?oif2) (v := .int .i64 (i : Nat)) ?hif2 (by kernel_rfl) (by kernel_rfl) (by kernel_rfl) (lateK_iff (by rfl)) ?hqf2 ?hyf2 hCf1 hSf1 ?restf2
  case hif2 => simp only [List.getElem?_toArray, List.getElem?_cons_succ, List.getElem?_cons_zero, Option.some.injEq]; rfl
  case hqf2 => exact fun _ _ _ h => h
  case hyf2 =>
    refine Or.inl ⟨by kernel_rfl, fun V hV => ?_⟩
    clear hV
    go_simp
  intro hCf2 hSf2
  clear hCf1 hSf1
  try simp only [Go.Act.put, List.setIfInBounds_toArray, List.set_cons_zero, List.set_cons_succ]
  refine wpAnyS_take (i := 2) (oi := ?oif3) (v := .pointer (some ⟨b, off + i * 7, none⟩)) ?hif3 (by kernel_rfl) (by kernel_rfl) (by kernel_rfl) (lateK_iff (by rfl)) ?hqf3 ?hyf3 hCf2 hSf2 ?restf3
  case hif3 => simp only [List.getElem?_toArray, List.getElem?_cons_succ, List.getElem?_cons_zero, Option.some.injEq]; rfl
  case hqf3 => exact fun _ _ _ h => h
  case hyf3 =>
    refine Or.inl ⟨by kernel_rfl, fun V hV => ?_⟩
    clear hV
    go_simp
  intro hCf3 hSf3
  clear hCf2 hSf2
  try simp only [Go.Act.put, List.setIfInBounds_toArray, List.set_cons_zero, List.set_cons_succ]
  refine wpAnyS_take (i := 3) (oi := ?oif4) (v := .agg #[.int .i64 (smpD ss i).t, .int .i64 (smpD ss i).x, .int .i64 (smpD ss i).y, .int .i64 (smpD ss i).z, .int .i64 (smpD ss i).p, .int .i64 (smpD ss i).q, .int .i64 (smpD ss i).s]) ?hif4 (by kernel_rfl) (by kernel_rfl) (by kernel_rfl) (lateK_iff (by rfl)) ?hqf4 ?hyf4 hCf3 hSf3 ?restf4
  case hif4 => simp only [List.getElem?_toArray, List.getElem?_cons_succ, List.getElem?_cons_zero, Option.some.injEq]; rfl
  case hqf4 => exact fun _ _ _ h => h
  case hyf4 =>
    refine Or.inl ⟨by kernel_rfl, fun V hV => ?_⟩
    obtain ⟨p0, p1, p2, p3, p4, p5, p6⟩ := (lateK_g hV).cells _ rfl i hi; rw [← smpD_at hi] at p0 p1 p2 p3 p4 p5 p6; simp only at p0 p1 p2 p3 p4 p5 p6; clear hV
    go_simp
  intro hCf4 hSf4
  clear hCf3 hSf3
  try simp only [Go.Act.put, List.setIfInBounds_toArray, List.set_cons_zero, List.set_cons_succ]
  refine wpAnyS_take (i := 4) (oi := ?oif5) (v := .slice (some ⟨b, off, none⟩) ss.length cap) ?hif5 (by kernel_rfl) (by kernel_rfl) (by kernel_rfl) (lateK_iff (by rfl)) ?hqf5 ?hyf5 hCf4 hSf4 ?restf5
  case hif5 => simp only [List.getElem?_toArray, List.getElem?_cons_succ, List.getElem?_cons_zero, Option.some.injEq]; rfl
  case hqf5 => exact fun _ _ _ h => h
  case hyf5 =>
    refine Or.inl ⟨by kernel_rfl, fun V hV => ?_⟩
    clear hV
    go_simp
  intro hCf5 hSf5
  clear hCf4 hSf4
  try simp only [Go.Act.put, List.setIfInBounds_toArray, List.set_cons_zero, List.set_cons_succ]
  refine wpAnyS_take (i := 5) (oi := ?oif6) (v := .int .i64 (j : Nat)) ?hif6 (by kernel_rfl) (by kernel_rfl) (by kernel_rfl) (lateK_iff (by rfl)) ?hqf6 ?hyf6 hCf5 hSf5 ?restf6
  case hif6 => simp only [List.getElem?_toArray, List.getElem?_cons_succ, List.getElem?_cons_zero, Option.some.injEq]; rfl
  case hqf6 => exact fun _ _ _ h => h
  case hyf6 =>
    refine Or.inl ⟨by kernel_rfl, fun V hV => ?_⟩
    clear hV
    go_simp
  intro hCf6 hSf6
  clear hCf5 hSf5
  try simp only [Go.Act.put, List.setIfInBounds_toArray, List.set_cons_zero, List.set_cons_succ]
  refine wpAnyS_take (i := 6) (oi := ?oif7) (v := .pointer (some ⟨b, off + j * 7, none⟩)) ?hif7 (by kernel_rfl) (by kernel_rfl) (by kernel_rfl) (lateK_iff (by rfl)) ?hqf7 ?hyf7 hCf6 hSf6 ?restf7
  case hif7 => simp only [List.getElem?_toArray, List.getElem?_cons_succ, List.getElem?_cons_zero, Option.some.injEq]; rfl
  case hqf7 => exact fun _ _ _ h => h
  case hyf7 =>
    refine Or.inl ⟨by kernel_rfl, fun V hV => ?_⟩
    clear hV
    go_simp
  intro hCf7 hSf7
  clear hCf6 hSf6
  try simp only [Go.Act.put, List.setIfInBounds_toArray, List.set_cons_zero, List.set_cons_succ]
  refine wpAnyS_take (i := 7) (oi := ?oif8) (v := .agg #[.int .i64 (smpD ss j).t, .int .i64 (smpD ss j).x, .int .i64 (smpD ss j).y, .int .i64 (smpD ss j).z, .int .i64 (smpD ss j).p, .int .i64 (smpD ss j).q, .int .i64 (smpD ss j).s]) ?hif8 (by kernel_rfl) (by kernel_rfl) (by kernel_rfl) (lateK_iff (by rfl)) ?hqf8 ?hyf8 hCf7 hSf7 ?restf8
  case hif8 => simp only [List.getElem?_toArray, List.getElem?_cons_succ, List.getElem?_cons_zero, Option.some.injEq]; rfl
  case hqf8 => exact fun _ _ _ h => h
  case hyf8 =>
    refine Or.inl ⟨by kernel_rfl, fun V hV => ?_⟩
    obtain ⟨q0, q1, q2, q3, q4, q5, q6⟩ := (lateK_g hV).cells _ rfl j hj; rw [← smpD_at hj] at q0 q1 q2 q3 q4 q5 q6; simp only at q0 q1 q2 q3 q4 q5 q6; clear hV
    go_simp
  intro hCf8 hSf8
  clear hCf7 hSf7
  try simp only [Go.Act.put, List.setIfInBounds_toArray, List.set_cons_zero, List.set_cons_succ]
  refine wpAnyS_take (i := 8) (oi := ?oif9) (v := .slice (some ⟨b, off, none⟩) ss.length cap) ?hif9 (by kernel_rfl) (by kernel_rfl) (by kernel_rfl) (lateK_iff (by rfl)) ?hqf9 ?hyf9 hCf8 hSf8 ?restf9
  case hif9 => simp only [List.getElem?_toArray, List.getElem?_cons_succ, List.getElem?_cons_zero, Option.some.injEq]; rfl
  case hqf9 => exact fun _ _ _ h => h
  case hyf9 =>
    refine Or.inl ⟨by kernel_rfl, fun V hV => ?_⟩
    clear hV
    go_simp
  intro hCf9 hSf9
  clear hCf8 hSf8
  try simp only [Go.Act.put, List.setIfInBounds_toArray, List.set_cons_zero, List.set_cons_succ]
  refine wpAnyS_take (i := 9) (oi := ?oif10) (v := .int .i64 (k : Nat)) ?hif10 (by kernel_rfl) (by kernel_rfl) (by kernel_rfl) (lateK_iff (by rfl)) ?hqf10 ?hyf10 hCf9 hSf9 ?restf10
  case hif10 => simp only [List.getElem?_toArray, List.getElem?_cons_succ, List.getElem?_cons_zero, Option.some.injEq]; rfl
  case hqf10 => exact fun _ _ _ h => h
  case hyf10 =>
    refine Or.inl ⟨by kernel_rfl, fun V hV => ?_⟩
    clear hV
    go_simp
  intro hCf10 hSf10
  clear hCf9 hSf9
  try simp only [Go.Act.put, List.setIfInBounds_toArray, List.set_cons_zero, List.set_cons_succ]
  refine wpAnyS_take (i := 10) (oi := ?oif11) (v := .pointer (some ⟨b, off + k * 7, none⟩)) ?hif11 (by kernel_rfl) (by kernel_rfl) (by kernel_rfl) (lateK_iff (by rfl)) ?hqf11 ?hyf11 hCf10 hSf10 ?restf11
  case hif11 => simp only [List.getElem?_toArray, List.getElem?_cons_succ, List.getElem?_cons_zero, Option.some.injEq]; rfl
  case hqf11 => exact fun _ _ _ h => h
  case hyf11 =>
    refine Or.inl ⟨by kernel_rfl, fun V hV => ?_⟩
    clear hV
    go_simp
  intro hCf11 hSf11
  clear hCf10 hSf10
  try simp only [Go.Act.put, List.setIfInBounds_toArray, List.set_cons_zero, List.set_cons_succ]
  refine wpAnyS_take (i := 11) (oi := ?oif12) (v := .pointer (some ⟨b, off + k * 7, none⟩)) ?hif12 (by kernel_rfl) (by kernel_rfl) (by kernel_rfl) (lateK_iff (by rfl)) ?hqf12 ?hyf12 hCf11 hSf11 ?restf12
  case hif12 => simp only [List.getElem?_toArray, List.getElem?_cons_succ, List.getElem?_cons_zero, Option.some.injEq]; rfl
  case hqf12 => exact fun _ _ _ h => h
  case hyf12 =>
    refine Or.inl ⟨by kernel_rfl, fun V hV => ?_⟩
    clear hV
    go_simp
  intro hCf12 hSf12
  clear hCf11 hSf11
  try simp only [Go.Act.put, List.setIfInBounds_toArray, List.set_cons_zero, List.set_cons_succ]
  refine wpAnyS_take (i := 12) (oi := ?oif13) (v := .int .i64 (smpD ss k).t) ?hif13 (by kernel_rfl) (by kernel_rfl) (by kernel_rfl) (lateK_iff (by rfl)) ?hqf13 ?hyf13 hCf12 hSf12 ?restf13
  case hif13 => simp only [List.getElem?_toArray, List.getElem?_cons_succ, List.getElem?_cons_zero, Option.some.injEq]; rfl
  case hqf13 => exact fun _ _ _ h => h
  case hyf13 =>
    refine Or.inl ⟨by kernel_rfl, fun V hV => ?_⟩
    obtain ⟨x0, x1, x2, x3, x4, x5, x6⟩ := (lateK_g hV).cells _ rfl k hk; rw [← smpD_at hk] at x0 x1 x2 x3 x4 x5 x6; simp only at x0 x1 x2 x3 x4 x5 x6; clear hV
    go_simp
  intro hCf13 hSf13
  clear hCf12 hSf12
  try simp only [Go.Act.put, List.setIfInBounds_toArray, List.set_cons_zero, List.set_cons_succ]
  refine wpAnyS_take (i := 14) (oi := ?oif14) (v := .slice (some ⟨b, off, none⟩) ss.length cap) ?hif14 (by kernel_rfl) (by kernel_rfl) (by kernel_rfl) (lateK_iff (by rfl)) ?hqf14 ?hyf14 hCf13 hSf13 ?restf14
  case hif14 => simp only [List.getElem?_toArray, List.getElem?_cons_succ, List.getElem?_cons_zero, Option.some.injEq]; rfl
  case hqf14 => exact fun _ _ _ h => h
  case hyf14 =>
    refine Or.inl ⟨by kernel_rfl, fun V hV => ?_⟩
    clear hV
    go_simp
  intro hCf14 hSf14
  clear hCf13 hSf13
  try simp only [Go.Act.put, List.setIfInBounds_toArray, List.set_cons_zero, List.set_cons_succ]
  refine wpAnyS_take (i := 15) (oi := ?oif15) (v := .int .i64 (k : Nat)) ?hif15 (by kernel_rfl) (by kernel_rfl) (by kernel_rfl) (lateK_iff (by rfl)) ?hqf15 ?hyf15 hCf14 hSf14 ?restf15
  case hif15 => simp only [List.getElem?_toArray, List.getElem?_cons_succ, List.getElem?_cons_zero, Option.some.injEq]; rfl
  case hqf15 => exact fun _ _ _ h => h
  case hyf15 =>
    refine Or.inl ⟨by kernel_rfl, fun V hV => ?_⟩
    clear hV
    go_simp
  intro hCf15 hSf15
  clear hCf14 hSf14
  try simp only [Go.Act.put, List.setIfInBounds_toArray, List.set_cons_zero, List.set_cons_succ]
  refine wpAnyS_take (i := 16) (oi := ?oif16) (v := .pointer (some ⟨b, off + k * 7, none⟩)) ?hif16 (by kernel_rfl) (by kernel_rfl) (by kernel_rfl) (lateK_iff (by rfl)) ?hqf16 ?hyf16 hCf15 hSf15 ?restf16
  case hif16 => simp only [List.getElem?_toArray, List.getElem?_cons_succ, List.getElem?_cons_zero, Option.some.injEq]; rfl
  case hqf16 => exact fun _ _ _ h => h
  case hyf16 =>
    refine Or.inl ⟨by kernel_rfl, fun V hV => ?_⟩
    clear hV
    go_simp
  intro hCf16 hSf16
  clear hCf15 hSf15
  try simp only [Go.Act.put, List.setIfInBounds_toArray, List.set_cons_zero, List.set_cons_succ]
  refine wpAnyS_take (i := 17) (oi := ?oif17) (v := .agg #[.int .i64 (smpD ss k).t, .int .i64 (smpD ss k).x, .int .i64 (smpD ss k).y, .int .i64 (smpD ss k).z, .int .i64 (smpD ss k).p, .int .i64 (smpD ss k).q, .int .i64 (smpD ss k).s]) ?hif17 (by kernel_rfl) (by kernel_rfl) (by kernel_rfl) (lateK_iff (by rfl)) ?hqf17 ?hyf17 hCf16 hSf16 ?restf17
  case hif17 => simp only [List.getElem?_toArray, List.getElem?_cons_succ, List.getElem?_cons_zero, Option.some.injEq]; rfl
  case hqf17 => exact fun _ _ _ h => h
  case hyf17 =>
    refine Or.inl ⟨by kernel_rfl, fun V hV => ?_⟩
    obtain ⟨x0, x1, x2, x3, x4, x5, x6⟩ := (lateK_g hV).cells _ rfl k hk; rw [← smpD_at hk] at x0 x1 x2 x3 x4 x5 x6; simp only at x0 x1 x2 x3 x4 x5 x6; clear hV
    go_simp
  intro hCf17 hSf17
  clear hCf16 hSf16
  try simp only [Go.Act.put, List.setIfInBounds_toArray, List.set_cons_zero, List.set_cons_succ]
  refine wpAnyS_ready (rs := [13]) (by kernel_rfl) (by simp) ?_
  refine AllReadyS.cons rfl hCf17 (fun K hK => ?_) AllReadyS.nil
  go_simp
  refine (KO.out _).mono ?_
  rintro e w5 ⟨rfl, hg5⟩
  have S5 := Lib.hid (SD.out.grown hg5)
  have G5 := Lib.hid (grown_trans GD.out hg5)
  refine hK.out _ _ S5.out (fun hCf18 hSf18 => ?_)
  clear hK hCf17 hSf17 K
  clear hg5 SD GD
  try simp only [Go.Act.put, List.setIfInBounds_toArray, List.set_cons_zero, List.set_cons_succ]
  refine wpAnyS_ready (rs := [18]) (by kernel_rfl) (by simp) ?_
  refine AllReadyS.cons rfl hCf18 (fun K hK => ?_) AllReadyS.nil
  go_simp
  refine (KS.out _).mono ?_
  rintro e w6 ⟨rfl, hg6⟩
  have S6 := Lib.hid (S5.out.grown hg6)
  have G6 := Lib.hid (grown_trans G5.out hg6)
  refine hK.out _ _ S6.out (fun hCf19 hSf19 => ?_)
  clear hK hCf18 hSf18 K
  clear hg6 S5 G5
  try simp only [Go.Act.put, List.setIfInBounds_toArray, List.set_cons_zero, List.set_cons_succ]
  refine wpAnyS_take (i := 19) (oi := ?oif20) (v := .int .i64 m) ?hif20 (by kernel_rfl) (by kernel_rfl) (by kernel_rfl) (lateK_iff (by rfl)) ?hqf20 ?hyf20 hCf19 hSf19 ?restf20
  case hif20 => simp only [List.getElem?_toArray, List.getElem?_cons_succ, List.getElem?_cons_zero, Option.some.injEq]; rfl
  case hqf20 => exact fun _ _ _ h => h
  case hyf20 =>
    refine Or.inl ⟨by kernel_rfl, fun V hV => ?_⟩
    clear hV
    go_simp
  intro hCf20 hSf20
  clear hCf19 hSf19
  try simp only [Go.Act.put, List.setIfInBounds_toArray, List.set_cons_zero, List.set_cons_succ]
  refine wpAnyS_done (by kernel_rfl) ?_ _
  clear hCf20 hSf20
  go_wp2_with fail
  go_ret
  exact ⟨rfl, G6.out⟩

set_option maxRecDepth 100000 in
set_option maxHeartbeats 1600000 in
theorem near_is (b off cap : Nat) (ss : List Smp) (HS : Hid (SOk ss)) (i j : Nat) (hij : i < j) (hj : j < ss.length) (most : Int) (m0 : 0 ≤ most) (m1 : most ≤ 100000000) (w : World) (hs : SmpsAt w (some ⟨b, off, none⟩) ss) {bb : Bool} (hb : Hid (bb = true ↔ NearP ss i j (most * most))) :
    Calls Try.prog 102 #[.slice (some ⟨b, off, none⟩) ss.length cap, .int .i64 (i : Nat), .int .i64 (j : Nat), .int .i64 most] w fun e w' => e = .returned (.bool bb) ∧ w.grownBy w' none := by
  have hl : (ss.length : Int) ≤ 20000 := HS.out.len
  have HA := Lib.hid hs
  obtain ⟨hsq0, hsq⟩ := sq_most m0 m1
  obtain ⟨M, hM⟩ : ∃ M, most * most = M := ⟨_, rfl⟩
  rw [hM] at hsq hsq0 hb
  have rM : IntKind.i64.wrap (most * most) = M := by rw [hM]; exact IntWalk.i64_in _ (by omega)
  have hi : i < ss.length := by omega
  have i1 : (i : Int) < (ss.length : Int) := by omega
  have j1 : (j : Int) < (ss.length : Int) := by omega
  have i2 : (0 : Int) ≤ (i : Int) := by omega
  have j2 : (0 : Int) ≤ (j : Int) := by omega
  have HM := Lib.hid hM
  clear hs hM hsq hsq0
  go_enter Try.func102, Try.ntmps102
  go_wp2_with fail
  go_loopw [9] (fun iv wr => ∃ (k : Nat), iv = .int .i64 (k : Nat) ∧ i < k ∧ k ≤ j ∧ Hid (∀ n, i < n → n < k → missV (smpD ss i) (smpD ss j) (smpD ss n) ≤ M) ∧ Hid (w.grownBy wr none))
    (fun iv _ => j - (intOf iv).toNat)
  case atStart => exact ⟨i + 1, by go_num, by omega, by omega, fun n a b => absurd b (by omega), grown_refl _ _⟩
  case round =>
    obtain ⟨k, rfl, hik, hkj, hN, hG⟩ := hrel
    by_cases hlt : k < j
    · have hk : k < ss.length := by omega
      have k1 : (k : Int) < (ss.length : Int) := by omega
      have k2 : (0 : Int) ≤ (k : Int) := by omega
      obtain ⟨m, hm⟩ : ∃ m, missV (smpD ss i) (smpD ss j) (smpD ss k) = m := ⟨_, rfl⟩
      have HMV := Lib.hid hm
      have hmb := miss_bd (smpIn_of HS.out hi) (smpIn_of HS.out hj) (smpIn_of HS.out hk) (times_le HS.out (Nat.le_of_lt hik) hk) (times_le HS.out hkj hj) (times_lt HS.out hij hj)
      rw [hm] at hmb
      have SR := Lib.hid (HA.out.grown hG.out)
      have HLT := Lib.hid hlt
      have KM : Hid (∀ V : World, Calls Try.prog 145 #[.agg #[.int .i64 (smpD ss i).t, .int .i64 (smpD ss i).x, .int .i64 (smpD ss i).y, .int .i64 (smpD ss i).z, .int .i64 (smpD ss i).p, .int .i64 (smpD ss i).q, .int .i64 (smpD ss i).s], .agg #[.int .i64 (smpD ss j).t, .int .i64 (smpD ss j).x, .int .i64 (smpD ss j).y, .int .i64 (smpD ss j).z, .int .i64 (smpD ss j).p, .int .i64 (smpD ss j).q, .int .i64 (smpD ss j).s], .agg #[.int .i64 (smpD ss k).t, .int .i64 (smpD ss k).x, .int .i64 (smpD ss k).y, .int .i64 (smpD ss k).z, .int .i64 (smpD ss k).p, .int .i64 (smpD ss k).q, .int .i64 (smpD ss k).s]] V fun e w' => e = .returned (.int .i64 m) ∧ V.grownBy w' none) := fun V => miss_is (smpD ss i) (smpD ss j) (smpD ss k) (smpIn_of HS.out hi) (smpIn_of HS.out hj) (smpIn_of HS.out hk) (times_le HS.out (Nat.le_of_lt hik) hk) (times_le HS.out hkj hj) (times_lt HS.out hij hj) V HMV
      clear hm
      go_wp2_with fail
      have SD : Hid (SmpsAt wr.drew (some ⟨b, off, none⟩) ss) := SR.out.grown (grown_drewN wr none 1)
      have GD : Hid (w.grownBy wr.drew none) := grown_trans hG.out (grown_drewN wr none 1)
      obtain ⟨dm, hdm⟩ : ∃ d, decide (M < m) = d := ⟨_, rfl⟩
      have hdm2 : decide (m > M) = dm := hdm
      have HDM := Lib.hid hdm
      refine region_late (lateK (fun V => SmpsAt V (some ⟨b, off, none⟩) ss) []) (by kernel_rfl) SD.out (fun hC0 hS0 => ?_)
      clear hG SR
      generalize wr.drew = V1 at *
      refine wpAnyS_take (i := 0) (oi := ?oi1) (v := .slice (some ⟨b, off, none⟩) ss.length cap) ?hi1 (by kernel_rfl) (by kernel_rfl) (by kernel_rfl) (lateK_iff (by rfl)) ?hq1 ?hy1 hC0 hS0 ?rest1
      case hi1 => simp only [List.getElem?_toArray, List.getElem?_cons_succ, List.getElem?_cons_zero, Option.some.injEq]; rfl
      case hq1 => exact fun _ _ _ h => h
      case hy1 =>
        refine Or.inl ⟨by kernel_rfl, fun V hV => ?_⟩
        clear hV
        go_simp
      intro hC1 hS1
      clear hC0 hS0
      try simp only [Go.Act.put, List.setIfInBounds_toArray, List.set_cons_zero, List.set_cons_succ]
      refine wpAnyS_take (i := 1) (oi := ?oi2) (v := .int .i64 (i : Nat)) ?hi2 (by kernel_rfl) (by kernel_rfl) (by kernel_rfl) (lateK_iff (by rfl)) ?hq2 ?hy2 hC1 hS1 ?rest2
      case hi2 => simp only [List.getElem?_toArray, List.getElem?_cons_succ, List.getElem?_cons_zero, Option.some.injEq]; rfl
      case hq2 => exact fun _ _ _ h => h
      case hy2 =>
        refine Or.inl ⟨by kernel_rfl, fun V hV => ?_⟩
        clear hV
        go_simp
      intro hC2 hS2
      clear hC1 hS1
      try simp only [Go.Act.put, List.setIfInBounds_toArray, List.set_cons_zero, List.set_cons_succ]
      refine wpAnyS_take (i := 2) (oi := ?oi3) (v := .pointer (some ⟨b, off + i * 7, none⟩)) ?hi3 (by kernel_rfl) (by kernel_rfl) (by kernel_rfl) (lateK_iff (by rfl)) ?hq3 ?hy3 hC2 hS2 ?rest3
      case hi3 => simp only [List.getElem?_toArray, List.getElem?_cons_succ, List.getElem?_cons_zero, Option.some.injEq]; rfl
      case hq3 => exact fun _ _ _ h => h
      case hy3 =>
        refine Or.inl ⟨by kernel_rfl, fun V hV => ?_⟩
        clear hV
        go_simp
      intro hC3 hS3
      clear hC2 hS2
      try simp only [Go.Act.put, List.setIfInBounds_toArray, List.set_cons_zero, List.set_cons_succ]
      refine wpAnyS_take (i := 3) (oi := ?oi4) (v := .agg #[.int .i64 (smpD ss i).t, .int .i64 (smpD ss i).x, .int .i64 (smpD ss i).y, .int .i64 (smpD ss i).z, .int .i64 (smpD ss i).p, .int .i64 (smpD ss i).q, .int .i64 (smpD ss i).s]) ?hi4 (by kernel_rfl) (by kernel_rfl) (by kernel_rfl) (lateK_iff (by rfl)) ?hq4 ?hy4 hC3 hS3 ?rest4
      case hi4 => simp only [List.getElem?_toArray, List.getElem?_cons_succ, List.getElem?_cons_zero, Option.some.injEq]; rfl
      case hq4 => exact fun _ _ _ h => h
      case hy4 =>
        refine Or.inl ⟨by kernel_rfl, fun V hV => ?_⟩
        obtain ⟨p0, p1, p2, p3, p4, p5, p6⟩ := (lateK_g hV).cells _ rfl i hi; rw [← smpD_at hi] at p0 p1 p2 p3 p4 p5 p6; simp only at p0 p1 p2 p3 p4 p5 p6; clear hV
        go_simp
      intro hC4 hS4
      clear hC3 hS3
      try simp only [Go.Act.put, List.setIfInBounds_toArray, List.set_cons_zero, List.set_cons_succ]
      refine wpAnyS_take (i := 4) (oi := ?oi5) (v := .slice (some ⟨b, off, none⟩) ss.length cap) ?hi5 (by kernel_rfl) (by kernel_rfl) (by kernel_rfl) (lateK_iff (by rfl)) ?hq5 ?hy5 hC4 hS4 ?rest5
      case hi5 => simp only [List.getElem?_toArray, List.getElem?_cons_succ, List.getElem?_cons_zero, Option.some.injEq]; rfl
      case hq5 => exact fun _ _ _ h => h
      case hy5 =>
        refine Or.inl ⟨by kernel_rfl, fun V hV => ?_⟩
        clear hV
        go_simp
      intro hC5 hS5
      clear hC4 hS4
      try simp only [Go.Act.put, List.setIfInBounds_toArray, List.set_cons_zero, List.set_cons_succ]
      refine wpAnyS_take (i := 5) (oi := ?oi6) (v := .int .i64 (j : Nat)) ?hi6 (by kernel_rfl) (by kernel_rfl) (by kernel_rfl) (lateK_iff (by rfl)) ?hq6 ?hy6 hC5 hS5 ?rest6
      case hi6 => simp only [List.getElem?_toArray, List.getElem?_cons_succ, List.getElem?_cons_zero, Option.some.injEq]; rfl
      case hq6 => exact fun _ _ _ h => h
      case hy6 =>
        refine Or.inl ⟨by kernel_rfl, fun V hV => ?_⟩
        clear hV
        go_simp
      intro hC6 hS6
      clear hC5 hS5
      try simp only [Go.Act.put, List.setIfInBounds_toArray, List.set_cons_zero, List.set_cons_succ]
      refine wpAnyS_take (i := 6) (oi := ?oi7) (v := .pointer (some ⟨b, off + j * 7, none⟩)) ?hi7 (by kernel_rfl) (by kernel_rfl) (by kernel_rfl) (lateK_iff (by rfl)) ?hq7 ?hy7 hC6 hS6 ?rest7
      case hi7 => simp only [List.getElem?_toArray, List.getElem?_cons_succ, List.getElem?_cons_zero, Option.some.injEq]; rfl
      case hq7 => exact fun _ _ _ h => h
      case hy7 =>
        refine Or.inl ⟨by kernel_rfl, fun V hV => ?_⟩
        clear hV
        go_simp
      intro hC7 hS7
      clear hC6 hS6
      try simp only [Go.Act.put, List.setIfInBounds_toArray, List.set_cons_zero, List.set_cons_succ]
      refine wpAnyS_take (i := 7) (oi := ?oi8) (v := .agg #[.int .i64 (smpD ss j).t, .int .i64 (smpD ss j).x, .int .i64 (smpD ss j).y, .int .i64 (smpD ss j).z, .int .i64 (smpD ss j).p, .int .i64 (smpD ss j).q, .int .i64 (smpD ss j).s]) ?hi8 (by kernel_rfl) (by kernel_rfl) (by kernel_rfl) (lateK_iff (by rfl)) ?hq8 ?hy8 hC7 hS7 ?rest8
      case hi8 => simp only [List.getElem?_toArray, List.getElem?_cons_succ, List.getElem?_cons_zero, Option.some.injEq]; rfl
      case hq8 => exact fun _ _ _ h => h
      case hy8 =>
        refine Or.inl ⟨by kernel_rfl, fun V hV => ?_⟩
        obtain ⟨q0, q1, q2, q3, q4, q5, q6⟩ := (lateK_g hV).cells _ rfl j hj; rw [← smpD_at hj] at q0 q1 q2 q3 q4 q5 q6; simp only at q0 q1 q2 q3 q4 q5 q6; clear hV
        go_simp
      intro hC8 hS8
      clear hC7 hS7
      try simp only [Go.Act.put, List.setIfInBounds_toArray, List.set_cons_zero, List.set_cons_succ]
      refine wpAnyS_take (i := 8) (oi := ?oi9) (v := .slice (some ⟨b, off, none⟩) ss.length cap) ?hi9 (by kernel_rfl) (by kernel_rfl) (by kernel_rfl) (lateK_iff (by rfl)) ?hq9 ?hy9 hC8 hS8 ?rest9
      case hi9 => simp only [List.getElem?_toArray, List.getElem?_cons_succ, List.getElem?_cons_zero, Option.some.injEq]; rfl
      case hq9 => exact fun _ _ _ h => h
      case hy9 =>
        refine Or.inl ⟨by kernel_rfl, fun V hV => ?_⟩
        clear hV
        go_simp
      intro hC9 hS9
      clear hC8 hS8
      try simp only [Go.Act.put, List.setIfInBounds_toArray, List.set_cons_zero, List.set_cons_succ]
      refine wpAnyS_take (i := 9) (oi := ?oi10) (v := .int .i64 (k : Nat)) ?hi10 (by kernel_rfl) (by kernel_rfl) (by kernel_rfl) (lateK_iff (by rfl)) ?hq10 ?hy10 hC9 hS9 ?rest10
      case hi10 => simp only [List.getElem?_toArray, List.getElem?_cons_succ, List.getElem?_cons_zero, Option.some.injEq]; rfl
      case hq10 => exact fun _ _ _ h => h
      case hy10 =>
        refine Or.inl ⟨by kernel_rfl, fun V hV => ?_⟩
        clear hV
        go_simp
      intro hC10 hS10
      clear hC9 hS9
      try simp only [Go.Act.put, List.setIfInBounds_toArray, List.set_cons_zero, List.set_cons_succ]
      refine wpAnyS_take (i := 10) (oi := ?oi11) (v := .pointer (some ⟨b, off + k * 7, none⟩)) ?hi11 (by kernel_rfl) (by kernel_rfl) (by kernel_rfl) (lateK_iff (by rfl)) ?hq11 ?hy11 hC10 hS10 ?rest11
      case hi11 => simp only [List.getElem?_toArray, List.getElem?_cons_succ, List.getElem?_cons_zero, Option.some.injEq]; rfl
      case hq11 => exact fun _ _ _ h => h
      case hy11 =>
        refine Or.inl ⟨by kernel_rfl, fun V hV => ?_⟩
        clear hV
        go_simp
      intro hC11 hS11
      clear hC10 hS10
      try simp only [Go.Act.put, List.setIfInBounds_toArray, List.set_cons_zero, List.set_cons_succ]
      refine wpAnyS_take (i := 11) (oi := ?oi12) (v := .agg #[.int .i64 (smpD ss k).t, .int .i64 (smpD ss k).x, .int .i64 (smpD ss k).y, .int .i64 (smpD ss k).z, .int .i64 (smpD ss k).p, .int .i64 (smpD ss k).q, .int .i64 (smpD ss k).s]) ?hi12 (by kernel_rfl) (by kernel_rfl) (by kernel_rfl) (lateK_iff (by rfl)) ?hq12 ?hy12 hC11 hS11 ?rest12
      case hi12 => simp only [List.getElem?_toArray, List.getElem?_cons_succ, List.getElem?_cons_zero, Option.some.injEq]; rfl
      case hq12 => exact fun _ _ _ h => h
      case hy12 =>
        refine Or.inl ⟨by kernel_rfl, fun V hV => ?_⟩
        obtain ⟨x0, x1, x2, x3, x4, x5, x6⟩ := (lateK_g hV).cells _ rfl k hk; rw [← smpD_at hk] at x0 x1 x2 x3 x4 x5 x6; simp only at x0 x1 x2 x3 x4 x5 x6; clear hV
        go_simp
      intro hC12 hS12
      clear hC11 hS11
      try simp only [Go.Act.put, List.setIfInBounds_toArray, List.set_cons_zero, List.set_cons_succ]
      refine wpAnyS_take (i := 13) (oi := ?oi13) (v := .int .i64 most) ?hi13 (by kernel_rfl) (by kernel_rfl) (by kernel_rfl) (lateK_iff (by rfl)) ?hq13 ?hy13 hC12 hS12 ?rest13
      case hi13 => simp only [List.getElem?_toArray, List.getElem?_cons_succ, List.getElem?_cons_zero, Option.some.injEq]; rfl
      case hq13 => exact fun _ _ _ h => h
      case hy13 =>
        refine Or.inl ⟨by kernel_rfl, fun V hV => ?_⟩
        clear hV
        go_simp
      intro hC13 hS13
      clear hC12 hS12
      try simp only [Go.Act.put, List.setIfInBounds_toArray, List.set_cons_zero, List.set_cons_succ]
      refine wpAnyS_take (i := 14) (oi := ?oi14) (v := .int .i64 most) ?hi14 (by kernel_rfl) (by kernel_rfl) (by kernel_rfl) (lateK_iff (by rfl)) ?hq14 ?hy14 hC13 hS13 ?rest14
      case hi14 => simp only [List.getElem?_toArray, List.getElem?_cons_succ, List.getElem?_cons_zero, Option.some.injEq]; rfl
      case hq14 => exact fun _ _ _ h => h
      case hy14 =>
        refine Or.inl ⟨by kernel_rfl, fun V hV => ?_⟩
        clear hV
        go_simp
      intro hC14 hS14
      clear hC13 hS13
      try simp only [Go.Act.put, List.setIfInBounds_toArray, List.set_cons_zero, List.set_cons_succ]
      refine wpAnyS_take (i := 15) (oi := ?oi15) (v := .int .i64 M) ?hi15 (by kernel_rfl) (by kernel_rfl) (by kernel_rfl) (lateK_iff (by rfl)) ?hq15 ?hy15 hC14 hS14 ?rest15
      case hi15 => simp only [List.getElem?_toArray, List.getElem?_cons_succ, List.getElem?_cons_zero, Option.some.injEq]; rfl
      case hq15 => exact fun _ _ _ h => h
      case hy15 =>
        refine Or.inl ⟨by kernel_rfl, fun V hV => ?_⟩
        clear hV
        go_simp
      intro hC15 hS15
      clear hC14 hS14
      try simp only [Go.Act.put, List.setIfInBounds_toArray, List.set_cons_zero, List.set_cons_succ]
      refine wpAnyS_ready (rs := [12]) (by kernel_rfl) (by simp) ?_
      refine AllReadyS.cons rfl hC15 (fun K hK => ?_) AllReadyS.nil
      go_simp
      refine (KM.out _).mono ?_
      rintro e w5 ⟨rfl, hg5⟩
      have S5 := Lib.hid (SD.out.grown hg5)
      have G5 := Lib.hid (grown_trans GD.out hg5)
      refine hK.out _ _ S5.out (fun hC16 hS16 => ?_)
      clear hK hC15 hS15 K
      clear hg5 SD GD
      try simp only [Go.Act.put, List.setIfInBounds_toArray, List.set_cons_zero, List.set_cons_succ]
      refine wpAnyS_take (i := 16) (oi := ?oi17) (v := .bool dm) ?hi17 (by kernel_rfl) (by kernel_rfl) (by kernel_rfl) (lateK_iff (by rfl)) ?hq17 ?hy17 hC16 hS16 ?rest17
      case hi17 => simp only [List.getElem?_toArray, List.getElem?_cons_succ, List.getElem?_cons_zero, Option.some.injEq]; rfl
      case hq17 => exact fun _ _ _ h => h
      case hy17 =>
        refine Or.inl ⟨by kernel_rfl, fun V hV => ?_⟩
        clear hV
        go_simp
      intro hC17 hS17
      clear hC16 hS16
      try simp only [Go.Act.put, List.setIfInBounds_toArray, List.set_cons_zero, List.set_cons_succ]
      refine wpAnyS_done (by kernel_rfl) ?_ _
      clear hC17 hS17
      clear hdm hdm2 S5
      cases dm
      · have hle : m ≤ M := by have := HDM.out; simp at this; exact this
        have HN2 : Hid (∀ n, i < n → n < k + 1 → missV (smpD ss i) (smpD ss j) (smpD ss n) ≤ M) := fun n a b => by
          rcases Nat.lt_or_ge n k with q | q
          · exact hN.out n a q
          · obtain rfl : n = k := by omega
            rw [HMV.out]; exact hle
        clear hN
        go_wp2_with fail
        go_roundw
        case rel => exact ⟨k + 1, by go_num, by omega, by have := HLT.out; omega, HN2, G5⟩
        case measure => have := HLT.out; simp [intOf]; omega
      · have hgt : M < m := by have := HDM.out; simpa using this
        obtain rfl : bb = false := by
          cases bb with
          | false => rfl
          | true => have q := hb.out.1 rfl k hik HLT.out; rw [HMV.out] at q; omega
        clear hN
        go_wp2_with fail
        go_ret
        exact ⟨rfl, G5.out⟩
    · obtain rfl : k = j := by omega
      obtain rfl : bb = true := hb.out.2 hN.out
      clear hN
      go_wp2_with fail
      go_ret
      exact ⟨rfl, hG.out⟩

set_option maxRecDepth 100000 in
set_option maxHeartbeats 1600000 in
theorem stands_is (b off cap : Nat) (ss : List Smp) (HS : Hid (SOk ss)) (i j : Nat) (hij : i < j) (hj : j < ss.length) (most : Int) (m0 : 0 ≤ most) (m1 : most ≤ 100000000) (w : World) (hs : SmpsAt w (some ⟨b, off, none⟩) ss) {bb : Bool} (hb : Hid (bb = true ↔ NearP ss i j (most * most))) :
    Calls Try.prog 104 #[.slice (some ⟨b, off, none⟩) ss.length cap, .int .i64 (i : Nat), .int .i64 (j : Nat), .int .i64 most] w fun e w' => e = .returned (.bool bb) ∧ w.grownBy w' none := by
  have hl : (ss.length : Int) ≤ 20000 := HS.out.len
  have HA := Lib.hid hs
  obtain ⟨hsq0, hsq⟩ := sq_most m0 m1
  obtain ⟨M, hM⟩ : ∃ M, most * most = M := ⟨_, rfl⟩
  rw [hM] at hsq hsq0 hb
  have rM : IntKind.i64.wrap (most * most) = M := by rw [hM]; exact IntWalk.i64_in _ (by omega)
  have hi : i < ss.length := by omega
  have i1 : (i : Int) < (ss.length : Int) := by omega
  have j1 : (j : Int) < (ss.length : Int) := by omega
  have i2 : (0 : Int) ≤ (i : Int) := by omega
  have j2 : (0 : Int) ≤ (j : Int) := by omega
  have HM := Lib.hid hM
  clear hs hM hsq hsq0
  go_enter Try.func104, Try.ntmps104
  go_wp2_with fail
  go_loopw [9] (fun iv wr => ∃ (k : Nat), iv = .int .i64 (k : Nat) ∧ i < k ∧ k ≤ j ∧ Hid (∀ n, i < n → n < k → missV (smpD ss i) (smpD ss j) (smpD ss n) ≤ M) ∧ Hid (w.grownBy wr none))
    (fun iv _ => j - (intOf iv).toNat)
  case atStart => exact ⟨i + 1, by go_num, by omega, by omega, fun n a b => absurd b (by omega), grown_refl _ _⟩
  case round =>
    obtain ⟨k, rfl, hik, hkj, hN, hG⟩ := hrel
    by_cases hlt : k < j
    · have hk : k < ss.length := by omega
      have k1 : (k : Int) < (ss.length : Int) := by omega
      have k2 : (0 : Int) ≤ (k : Int) := by omega
      obtain ⟨m, hm⟩ : ∃ m, missV (smpD ss i) (smpD ss j) (smpD ss k) = m := ⟨_, rfl⟩
      have HMV := Lib.hid hm
      have hmb := miss_bd (smpIn_of HS.out hi) (smpIn_of HS.out hj) (smpIn_of HS.out hk) (times_le HS.out (Nat.le_of_lt hik) hk) (times_le HS.out hkj hj) (times_lt HS.out hij hj)
      rw [hm] at hmb
      have SR := Lib.hid (HA.out.grown hG.out)
      have HLT := Lib.hid hlt
      clear hm
      go_wp2_with fail
      refine (fault_is b off cap ss HS i k j hi hk hj (Nat.le_of_lt hik) hkj hij _ SR.out HMV).mono ?_; rintro e w5 ⟨rfl, hg5⟩
      have G5 := Lib.hid (grown_trans hG.out hg5)
      clear hg5 hG SR
      by_cases hle : m ≤ M
      · have gd : decide (M < m) = false := by simpa using hle
        have HN2 : Hid (∀ n, i < n → n < k + 1 → missV (smpD ss i) (smpD ss j) (smpD ss n) ≤ M) := fun n a b => by
          rcases Nat.lt_or_ge n k with q | q
          · exact hN.out n a q
          · obtain rfl : n = k := by omega
            rw [HMV.out]; exact hle
        clear hN
        go_wp2_with fail
        go_roundw
        case rel => exact ⟨k + 1, by go_num, by omega, by have := HLT.out; omega, HN2, G5⟩
        case measure => have := HLT.out; simp [intOf]; omega
      · have gd : decide (M < m) = true := by simp; omega
        obtain rfl : bb = false := by
          cases bb with
          | false => rfl
          | true => have q := hb.out.1 rfl k hik HLT.out; rw [HMV.out] at q; omega
        clear hN
        go_wp2_with fail
        go_ret
        exact ⟨rfl, G5.out⟩
    · obtain rfl : k = j := by omega
      obtain rfl : bb = true := hb.out.2 hN.out
      clear hN
      go_wp2_with fail
      go_ret
      exact ⟨rfl, hG.out⟩

end Go.Proofs.Ytgkhhfojioepgaa
namespace Go.Proofs.Ytgkhhfojioepgaa
open Go.RowKit
set_option linter.unusedSimpArgs false
set_option linter.unusedVariables false

/-- The error of a thinning. -/
noncomputable def thinE (a : Act) (most limit : Int) : Int := if chkE a = 0 then (if 0 ≤ most ∧ most ≤ 100000000 then (if (a.ss.length : Int) ≤ limit then 0 else 3) else 9) else chkE a

set_option maxHeartbeats 1600000 in
theorem checkThin_any (a : Act) (most limit : Int) (w : World) (ha : ActAt w a) {E : Int} (hE : Hid (thinE a most limit = E)) :
    Calls Try.prog 99 #[a.val, .int .i64 most, .int .i64 limit] w fun x w' => x = .returned (.int .i64 E) ∧ w.grownBy w' none := by
  obtain ⟨ce, hce⟩ : ∃ e, chkE a = e := ⟨_, rfl⟩
  have hv := hE.out
  unfold thinE at hv
  rw [hce] at hv
  have HCE := Lib.hid hce; have HA := Lib.hid ha
  by_cases c1 : ce = 0
  · rw [if_pos c1] at hv
    subst c1
    have hok := chk_ok hce
    have hl20 := hok.sl
    by_cases c2 : 0 ≤ most ∧ most ≤ 100000000
    · rw [if_pos c2] at hv
      obtain ⟨nm, sp, st, so, sc, ss, lo, lc, ls, to_, tc, ts⟩ := a
      simp only [Act.val] at *
      obtain ⟨dd, hdd⟩ : ∃ d, decide (limit < (ss.length : Int)) = d := ⟨_, rfl⟩
      have hdd2 : decide ((ss.length : Int) > limit) = dd := hdd
      have HDD := Lib.hid hdd
      have HV := Lib.hid hv
      clear hE hce hok ha hv
      go_enter Try.func99, Try.ntmps99
      go_wp2_with fail
      refine (check_any ⟨nm, sp, st, so, sc, ss, lo, lc, ls, to_, tc, ts⟩ _ (HA.out.grown (World.grownBy_alloc _ _ _)) HCE).mono ?_; rintro e w1 ⟨rfl, hg1⟩
      have G1 := Lib.hid (grown_trans (World.grownBy_alloc w (.cells #[.string nm, .int .i64 sp, .int .i64 st, .slice so ss.length sc, .slice lo ls.length lc, .slice to_ ts.length tc] 26) none) hg1)
      have b3 : w1.cell? ⟨w.heap.size, 3, none⟩ = some (.slice so ss.length sc) := grown_cell hg1 (by go_simp)
      clear hg1
      go_wp2_with fail
      refine (twithin_yes _ _ _ c2.1 c2.2 _).mono ?_; rintro e w2 ⟨rfl, rfl⟩
      cases dd with
      | true =>
        have hcap : ¬ (ss.length : Int) ≤ limit := by have := HDD.out; simp at this; omega
        have hvv := HV.out
        rw [if_neg hcap] at hvv
        subst hvv
        go_wp2_with fail
        go_ret
        exact ⟨rfl, G1.out⟩
      | false =>
        have hcap : (ss.length : Int) ≤ limit := by have := HDD.out; simp at this; omega
        have hvv := HV.out
        rw [if_pos hcap] at hvv
        subst hvv
        go_wp2_with fail
        go_ret
        exact ⟨rfl, G1.out⟩
    · rw [if_neg c2] at hv
      subst hv
      have C2 : Hid (most < 0 ∨ 100000000 < most) := by show _ ∨ _; omega
      obtain ⟨nm, sp, st, so, sc, ss, lo, lc, ls, to_, tc, ts⟩ := a
      simp only [Act.val] at *
      clear hE hce hok ha c2
      go_enter Try.func99, Try.ntmps99
      go_wp2_with fail
      refine (check_any ⟨nm, sp, st, so, sc, ss, lo, lc, ls, to_, tc, ts⟩ _ (HA.out.grown (World.grownBy_alloc _ _ _)) HCE).mono ?_; rintro e w1 ⟨rfl, hg1⟩
      have G1 := Lib.hid (grown_trans (World.grownBy_alloc w (.cells #[.string nm, .int .i64 sp, .int .i64 st, .slice so ss.length sc, .slice lo ls.length lc, .slice to_ ts.length tc] 26) none) hg1)
      clear hg1
      go_wp2_with fail
      refine (twithin_no _ _ _ C2.out _).mono ?_; rintro e w2 ⟨rfl, rfl⟩
      go_wp2_with fail
      go_ret
      exact ⟨rfl, G1.out⟩
  · rw [if_neg c1] at hv
    subst hv
    have hne : (ce != 0) = true := by simpa using c1
    obtain ⟨nm, sp, st, so, sc, ss, lo, lc, ls, to_, tc, ts⟩ := a
    simp only [Act.val] at *
    clear hE hce ha c1
    go_enter Try.func99, Try.ntmps99
    go_wp2_with fail
    refine (check_any ⟨nm, sp, st, so, sc, ss, lo, lc, ls, to_, tc, ts⟩ _ (HA.out.grown (World.grownBy_alloc _ _ _)) HCE).mono ?_; rintro e w1 ⟨rfl, hg1⟩
    have G1 := Lib.hid (grown_trans (World.grownBy_alloc w (.cells #[.string nm, .int .i64 sp, .int .i64 st, .slice so ss.length sc, .slice lo ls.length lc, .slice to_ ts.length tc] 26) none) hg1)
    clear hg1
    go_wp2_with fail
    go_ret
    exact ⟨rfl, G1.out⟩
end Go.Proofs.Ytgkhhfojioepgaa
namespace Go.Proofs.Ytgkhhfojioepgaa
open Go.RowKit
set_option linter.unusedSimpArgs false
set_option linter.unusedVariables false

set_option maxRecDepth 100000 in
set_option maxHeartbeats 4000000 in
theorem Fewest_ok (nm : ByteArray) (sp st : Int) (b off sc : Nat) (ss : List Smp) (lo : Option Addr) (lc : Nat) (ls : List LapV) (to_ : Option Addr) (tc : Nat) (ts : List ByteArray) (most : Int) (m0 : 0 ≤ most) (m1 : most ≤ 100000000) (hl : (ss.length : Int) ≤ 300) (hn1 : 1 ≤ ss.length) (w : World)
    (HA : Hid (ActAt w ⟨nm, sp, st, some ⟨b, off, none⟩, sc, ss, lo, lc, ls, to_, tc, ts⟩)) (HTE : Hid (thinE ⟨nm, sp, st, some ⟨b, off, none⟩, sc, ss, lo, lc, ls, to_, tc, ts⟩ most 300 = 0)) (HS : Hid (SOk ss)) {nr : Nat → Nat → Bool} (HNR : Hid (nrS ss most = nr)) :
    Calls Try.prog 42 #[.agg #[.string nm, .int .i64 sp, .int .i64 st, .slice (some ⟨b, off, none⟩) ss.length sc, .slice lo ls.length lc, .slice to_ ts.length tc], .int .i64 most] w fun x w' => (∃ v k, x = .returned (.tuple #[v, .int .i64 0]) ∧ PthEnd ss.length (fwN ss.length nr) 0 k ∧ w'.ownsRow w.heap.size 3 1 v k (pthVs (fwN ss.length nr) 0 k)) ∧ w.grownBy w' none := by
  have hll : ss.length ≤ 300 := by omega
  have hmk := run_make_row' (P := Try.prog) 48 3 (.int .i64 0) 8 Try.underlying48 info_int rfl .i64 .i64 ss.length (by omega) (by omega)
  obtain ⟨la, hla⟩ : ∃ la : Nat, ss.length = la + 1 := ⟨ss.length - 1, by omega⟩
  have HLA := Lib.hid hla
  have hla2 : (ss.length : Int) - 1 = (la : Int) := by omega
  have rlen : IntKind.i64.wrap ((ss.length : Int) - 1) = (la : Int) := by rw [hla2]; exact IntWalk.i64_in _ (by omega)
  have hnz : ((ss.length : Int) == 0) = false := by rw [beq_eq_false_iff_ne]; omega
  clear hla
  go_enter Try.func42, Try.ntmps42
  go_wp2_with fail
  refine (checkThin_any ⟨nm, sp, st, some ⟨b, off, none⟩, sc, ss, lo, lc, ls, to_, tc, ts⟩ most 300 _ (HA.out.grown (World.grownBy_alloc _ _ _)) HTE).mono ?_; rintro e w1 ⟨rfl, hg1⟩
  have G1 : w.grownBy w1 none := grown_trans (World.grownBy_alloc w (.cells #[.string nm, .int .i64 sp, .int .i64 st, .slice (some ⟨b, off, none⟩) ss.length sc, .slice lo ls.length lc, .slice to_ ts.length tc] 26) none) hg1
  have b3 : w1.cell? ⟨w.heap.size, 3, none⟩ = some (.slice (some ⟨b, off, none⟩) ss.length sc) := grown_cell hg1 (by go_simp)
  have hR0 : w.heap.size < w1.heap.size := by have := hg1.size; simp at this; omega
  have HAS := Lib.hid (HA.out.hs)
  clear hg1
  have HM0 : Hid (KpM w (some ⟨b, off, none⟩) ss.length sc w1.heap.size ss.length (fun _ => 0) (fun _ => 0) ((w1.alloc (.cells (madeCells #[.int .i64 0] ss.length) 3)).alloc (.cells (madeCells #[.int .i64 0] ss.length) 3))) := by
    refine ⟨grown_cell (grown_trans (World.grownBy_alloc _ _ _) (World.grownBy_alloc _ _ _)) b3, ?_, ?_, ((below_grown G1).alloc (Nat.le_of_lt hR0) _).alloc (by simp; omega) _⟩
    · unfold RowAt
      rw [Below.heap_alloc _ _ _ (by simp), heap_alloc_new, iRow_zero]
    · have q := heap_alloc_new (w1.alloc (.cells (madeCells #[.int .i64 0] ss.length) 3)) (.cells (madeCells #[.int .i64 0] ss.length) 3)
      have e : madeCells #[Value.int .i64 0] ss.length = iRow ss.length (fun _ => 0) := by rw [iRow_zero]
      unfold RowAt
      rw [← e]
      simpa using q
  have b31 : (w1.alloc (.cells (madeCells #[.int .i64 0] ss.length) 3)).cell? ⟨w.heap.size, 3, none⟩ = some (.slice (some ⟨b, off, none⟩) ss.length sc) := grown_cell (World.grownBy_alloc _ _ _) b3
  have HR : Hid (w.heap.size < w1.heap.size) := hR0
  clear G1 hR0
  go_upto_region 9 with (fail)
  obtain ⟨R, hR⟩ : ∃ R, w1.heap.size = R := ⟨_, rfl⟩
  have hRa : (w1.alloc (.cells (madeCells #[.int .i64 0] ss.length) 3)).heap.size = R + 1 := by rw [← hR]; simp
  try rw [hRa]
  try simp only [hR] at *
  generalize ((w1.alloc (.cells (madeCells #[.int .i64 0] ss.length) 3)).alloc (.cells (madeCells #[.int .i64 0] ss.length) 3)) = W2 at *
  clear b3 b31 hmk hRa hR
  have HL := Lib.hid hll
  have lan : la < ss.length := by have := HLA.out; omega
  have c0 := HM0.out.r2.cell (k := la) lan
  have fr0 := HM0.out.r2.free la
  have la1 : (la : Int) < (ss.length : Int) := by omega
  have la0 : (0 : Int) ≤ (la : Int) := by omega
  have HM1 : Hid (KpM w (some ⟨b, off, none⟩) ss.length sc R ss.length (fwF ss.length nr 0) (fwG ss.length nr 0) (W2.setCell ⟨R + 1, la, none⟩ (.int .i64 (-1)))) := by
    show KpM _ _ _ _ _ _ _ _ _
    refine (HM0.out.set2 HR.out la (-1)).congr (fun k hk => by simp [fwF, fwV]) (fun k hk => ?_)
    unfold updI fwG
    have := HLA.out
    by_cases e : k = la
    · rw [if_pos e, if_pos (by omega)]
    · rw [if_neg e, if_neg (by omega)]; simp [fwV]
  have rla : IntKind.i64.wrap ((la : Int) - 1) = (la : Int) - 1 := IntWalk.i64_in _ (by omega)
  clear HM0
  go_wp2_with fail
  clear c0 fr0
  go_loopw [10] (fun iv wr => ∃ (d : Nat), d ≤ la ∧ iv = .int .i64 ((la : Int) - 1 - d) ∧ Hid (KpM w (some ⟨b, off, none⟩) ss.length sc R ss.length (fwF ss.length nr d) (fwG ss.length nr d) wr))
    (fun iv _ => (intOf iv + 1).toNat)
  case atStart => exact ⟨0, Nat.zero_le _, by go_num, HM1.out⟩
  case round =>
    obtain ⟨d, hd, rfl, hM⟩ := hrel
    by_cases hlt : d < la
    · obtain ⟨i, hi⟩ : ∃ i : Nat, i = ss.length - 2 - d := ⟨_, rfl⟩
      have hLa := HLA.out
      have hi2 : (la : Int) - 1 - (d : Int) = (i : Int) := by omega
      have HI := Lib.hid hi
      obtain ⟨i1, hi1⟩ : ∃ i1 : Nat, i1 = i + 1 := ⟨_, rfl⟩
      have HI1 := Lib.hid hi1
      rw [hi2]
      have hin : i < ss.length := by omega
      have hi1n : i1 < ss.length := by omega
      have c1 := hM.out.r1.cell (k := i) hin
      have c3 := hM.out.r1.cell (k := i1) hi1n
      have hs3 : fwF ss.length nr d i1 = (((fwV ss.length nr d).1 i1 : Nat) : Int) := rfl
      rw [hs3] at c3
      have hsb := fw_le ss.length nr d i1
      obtain ⟨s, hs⟩ : ∃ s, (fwV ss.length nr d).1 i1 = s := ⟨_, rfl⟩
      rw [hs] at c3 hsb
      have HSV := Lib.hid hs
      have fr1 := hM.out.r1.free i
      have HM2 := hM.out.set1 HR.out i ((s : Int) + 1)
      have c2 := HM2.r2.cell (k := i) hin
      have fr2 := HM2.r2.free i
      have HM3 : Hid (KpM w (some ⟨b, off, none⟩) ss.length sc R ss.length (fwFm ss.length nr d 0) (fwGm ss.length nr d 0) ((wr.setCell ⟨R, i, none⟩ (.int .i64 ((s : Int) + 1))).setCell ⟨R + 1, i, none⟩ (.int .i64 (i1 : Int)))) := by
        have q := HM2.set2 HR.out i (i1 : Int)
        show KpM _ _ _ _ _ _ _ _ _
        have e1 : fwFm ss.length nr d 0 = updI (fwF ss.length nr d) i ((s : Int) + 1) := by
          unfold fwFm fwB; rw [← hi, ← hi1, hs]
        have e2 : fwGm ss.length nr d 0 = updI (fwG ss.length nr d) i (i1 : Int) := by
          unfold fwGm fwB; rw [← hi, ← hi1]
        rw [e1, e2]; exact q
      have hin2 : (i : Int) < (ss.length : Int) := by omega
      have hi0 : (0 : Int) ≤ (i : Int) := by omega
      have hin3 : (i1 : Int) < (ss.length : Int) := by omega
      have hi10 : (0 : Int) ≤ (i1 : Int) := by omega
      have wi1 : IntKind.i64.wrap ((i : Int) + 1) = (i1 : Int) := by rw [hi1]; exact IntWalk.i64_in _ (by omega)
      have wi2 : IntKind.i64.wrap ((i : Int) + 2) = (i : Int) + 2 := IntWalk.i64_in _ (by omega)
      have ws1 : IntKind.i64.wrap ((s : Int) + 1) = (s : Int) + 1 := IntWalk.i64_in _ (by omega)
      have wim : IntKind.i64.wrap ((i : Int) - 1) = (i : Int) - 1 := IntWalk.i64_in _ (by omega)
      clear HM2 hM hi hi1 hs hs3 hLa
      go_wp2_with fail
      clear c1 c2 c3 fr1 fr2
      go_loopw [11] (fun jv w3 => ∃ (m : Nat), m ≤ d ∧ jv = .int .i64 ((i : Int) + 2 + m) ∧ Hid (KpM w (some ⟨b, off, none⟩) ss.length sc R ss.length (fwFm ss.length nr d m) (fwGm ss.length nr d m) w3))
        (fun jv _ => ss.length - (intOf jv).toNat)
      case atStart => exact ⟨0, Nat.zero_le _, by go_num, HM3.out⟩
      case round =>
        obtain ⟨m, hm, rfl, hMi⟩ := hrel
        by_cases hml : m < d
        · obtain ⟨j, hj⟩ : ∃ j : Nat, j = i + 2 + m := ⟨_, rfl⟩
          have hj2 : (i : Int) + 2 + (m : Int) = (j : Int) := by omega
          have HJ := Lib.hid hj
          have hij : i < j := by omega
          have hjn : j < ss.length := by have := HI.out; have := HLA.out; omega
          have hjla : (j : Int) ≤ (la : Int) := by have := HLA.out; omega
          have hjn2 : (j : Int) < (ss.length : Int) := by omega
          have hj0 : (0 : Int) ≤ (j : Int) := by omega
          rw [hj2]
          have c1 : wr.cell? ⟨R, j, none⟩ = some (.int .i64 ((fwV ss.length nr d).1 j : Nat)) := by
            have q := hMi.out.r1.cell (k := j) hjn
            rw [fwFm_far (by have := HI.out; omega)] at q
            exact q
          have c2 : wr.cell? ⟨R, i, none⟩ = some (.int .i64 (((fwV ss.length nr d).1 (fwB (fwV ss.length nr d).1 (nr i) i m) : Nat) + 1)) := by
            have q := hMi.out.r1.cell (k := i) hin
            rw [fwFm_at HI.out] at q
            exact q
          have hbu := fw_le ss.length nr d j
          have hbv := fw_le ss.length nr d (fwB (fwV ss.length nr d).1 (nr i) i m)
          obtain ⟨u, hu⟩ : ∃ u, (fwV ss.length nr d).1 j = u := ⟨_, rfl⟩
          obtain ⟨v, hv⟩ : ∃ v, (fwV ss.length nr d).1 (fwB (fwV ss.length nr d).1 (nr i) i m) = v := ⟨_, rfl⟩
          rw [hu] at c1 hbu
          rw [hv] at c2 hbv
          have HU := Lib.hid hu; have HV := Lib.hid hv
          have wu : IntKind.i64.wrap ((u : Int) + 1) = (u : Int) + 1 := IntWalk.i64_in _ (by omega)
          have b3 := hMi.out.b3
          clear hbu hbv hu hv hj
          by_cases hle : u < v
          · obtain ⟨bb, hbb⟩ : ∃ bb, nr i j = bb := ⟨_, rfl⟩
            have HB : Hid (bb = true ↔ NearP ss i j (most * most)) := by
              show _ ↔ _
              rw [← hbb, ← HNR.out]; exact nrS_iff
            have HBB := Lib.hid hbb
            have HSW : Hid (∀ W : World, (wr.grownBy W none ∧ World.cell? W ⟨w.heap.size, 3, none⟩ = some (.slice (some ⟨b, off, none⟩) ss.length sc) ∧ World.cell? W ⟨R, j, none⟩ = some (.int .i64 (u : Nat)) ∧ World.cell? W ⟨R, i, none⟩ = some (.int .i64 ((v : Nat) + 1))) → SmpsAt W (some ⟨b, off, none⟩) ss) := fun W h => (HAS.out.grown (grown_below hMi.out.g)).grown h.1
            have g1 : decide (((u : Nat) : Int) + 1 < ((v : Nat) : Int) + 1) = true := by simp; omega
            have g2 : ((u : Nat) : Int) + 1 < ((v : Nat) : Int) + 1 := by omega
            have hS0 : (wr.grownBy wr none ∧ World.cell? wr ⟨w.heap.size, 3, none⟩ = some (.slice (some ⟨b, off, none⟩) ss.length sc) ∧ World.cell? wr ⟨R, j, none⟩ = some (.int .i64 (u : Nat)) ∧ World.cell? wr ⟨R, i, none⟩ = some (.int .i64 ((v : Nat) + 1))) := ⟨grown_refl _ _, b3, c1, c2⟩
            have hstep : ∀ W W' : World, (wr.grownBy W none ∧ World.cell? W ⟨w.heap.size, 3, none⟩ = some (.slice (some ⟨b, off, none⟩) ss.length sc) ∧ World.cell? W ⟨R, j, none⟩ = some (.int .i64 (u : Nat)) ∧ World.cell? W ⟨R, i, none⟩ = some (.int .i64 ((v : Nat) + 1))) → W.grownBy W' none → (wr.grownBy W' none ∧ World.cell? W' ⟨w.heap.size, 3, none⟩ = some (.slice (some ⟨b, off, none⟩) ss.length sc) ∧ World.cell? W' ⟨R, j, none⟩ = some (.int .i64 (u : Nat)) ∧ World.cell? W' ⟨R, i, none⟩ = some (.int .i64 ((v : Nat) + 1))) := fun W W' h g => ⟨grown_trans h.1 g, grown_cell g h.2.1, grown_cell g h.2.2.1, grown_cell g h.2.2.2⟩
            have hSd := hstep _ _ hS0 (grown_drewN wr none 1)
            have HSTEP := Lib.hid hstep; have HSD : Hid (wr.grownBy wr.drew none ∧ World.cell? wr.drew ⟨w.heap.size, 3, none⟩ = some (.slice (some ⟨b, off, none⟩) ss.length sc) ∧ World.cell? wr.drew ⟨R, j, none⟩ = some (.int .i64 (u : Nat)) ∧ World.cell? wr.drew ⟨R, i, none⟩ = some (.int .i64 ((v : Nat) + 1))) := hSd
            clear hS0 hstep hSd hbb
            go_wp2_with fail
            clear b3 c1 c2
            go_region_held3 (fun W => (wr.grownBy W none ∧ World.cell? W ⟨w.heap.size, 3, none⟩ = some (.slice (some ⟨b, off, none⟩) ss.length sc) ∧ World.cell? W ⟨R, j, none⟩ = some (.int .i64 (u : Nat)) ∧ World.cell? W ⟨R, i, none⟩ = some (.int .i64 ((v : Nat) + 1)))) (first | exact HSD.out | (refine HSTEP.out _ _ ?_ (by assumption) <;> assumption)) (first
              | (go_at_call 102; refine (near_is b off sc ss HS i j hij hjn most m0 m1 _ (HSW.out _ (by first | assumption | exact HSD.out)) HB).mono ?_; rintro x w7 ⟨rfl, hg7⟩))
            all_goals
              rename_i hfin
              obtain ⟨w9, hw9⟩ : ∃ w9, w9 = w7 := ⟨_, rfl⟩
              subst hw9
              have HM7 := hMi.out.grown hfin.1
              have c7 := hfin.2.2.1
              clear hfin HSTEP HSD
              cases bb with
              | false =>
                have HN : Hid (KpM w (some ⟨b, off, none⟩) ss.length sc R ss.length (fwFm ss.length nr d (m + 1)) (fwGm ss.length nr d (m + 1)) w9) := by
                  have e := fw_stay (n := ss.length) (nr := nr) (d := d) (m := m) HI.out (fun h => by have := HBB.out; rw [HJ.out] at this; rw [h.2] at this; cases this)
                  show KpM _ _ _ _ _ _ _ _ _
                  rw [e.1, e.2]; exact HM7
                clear HM7 c7 hMi
                go_wp2_with fail
                go_roundw
                case rel => exact ⟨m + 1, by omega, by rw [← hj2]; go_num, HN.out⟩
                case measure => first | (simp [intOf]; done) | (simp [intOf]; omega)
              | true =>
                have d1 := HM7.r1.cell (k := i) hin
                have e1 := HM7.r1.free i
                have HM8 := HM7.set1 HR.out i ((u : Nat) + 1)
                have d2 := HM8.r2.cell (k := i) hin
                have e2 := HM8.r2.free i
                have HN : Hid (KpM w (some ⟨b, off, none⟩) ss.length sc R ss.length (fwFm ss.length nr d (m + 1)) (fwGm ss.length nr d (m + 1)) ((w9.setCell ⟨R, i, none⟩ (.int .i64 ((u : Nat) + 1))).setCell ⟨R + 1, i, none⟩ (.int .i64 (j : Nat)))) := by
                  have e := fw_go (n := ss.length) (nr := nr) (d := d) (m := m) HI.out HJ.out (by rw [HU.out, HV.out]; exact hle) HBB.out
                  show KpM _ _ _ _ _ _ _ _ _
                  rw [e.1, e.2, HU.out]; exact HM8.set2 HR.out i j
                clear HM7 HM8 hMi
                go_wp2_with fail
                go_roundw
                case rel => exact ⟨m + 1, by omega, by rw [← hj2]; go_num, HN.out⟩
                case measure => first | (simp [intOf]; done) | (simp [intOf]; omega)
          · have g1 : decide (((u : Nat) : Int) + 1 < ((v : Nat) : Int) + 1) = false := by simp; omega
            have g2 : ¬ (((u : Nat) : Int) + 1 < ((v : Nat) : Int) + 1) := by omega
            go_wp2_with fail
            go_quiet (fail)
            have HN : Hid (KpM w (some ⟨b, off, none⟩) ss.length sc R ss.length (fwFm ss.length nr d (m + 1)) (fwGm ss.length nr d (m + 1)) (wr.drewN nq)) := by
              have e := fw_stay (n := ss.length) (nr := nr) (d := d) (m := m) HI.out (fun h => by have := h.1; rw [← HJ.out, HU.out, HV.out] at this; omega)
              show KpM _ _ _ _ _ _ _ _ _
              rw [e.1, e.2]; exact hMi.out.grown (grown_drewN _ _ _)
            clear hMi b3 c1 c2
            go_wp2_with fail
            go_roundw
            case rel => exact ⟨m + 1, by omega, by rw [← hj2]; go_num, HN.out⟩
            case measure => first | (simp [intOf]; done) | (simp [intOf]; omega)
        · obtain rfl : m = d := by omega
          have HN : Hid (KpM w (some ⟨b, off, none⟩) ss.length sc R ss.length (fwF ss.length nr (m + 1)) (fwG ss.length nr (m + 1)) wr) := by
            show KpM _ _ _ _ _ _ _ _ _
            rw [← fwFm_end, ← fwGm_end (by have := HLA.out; omega)]; exact hMi.out
          have hend : (i : Int) + 2 + (m : Int) = (ss.length : Int) := by have := HI.out; have := HLA.out; omega
          have hge : ¬ (ss.length : Int) ≤ (la : Int) := by have := HLA.out; omega
          rw [hend]
          clear hMi
          go_wp2_with fail
          go_roundw
          case rel => exact ⟨m + 1, by omega, by rw [← hi2]; go_num, HN.out⟩
          case measure => first | (simp [intOf]; done) | (simp [intOf]; omega)
    · obtain rfl : d = la := by omega
      have hLa := HLA.out
      have HG : Hid (∀ k, k < ss.length → k < fwN ss.length nr k ∧ fwN ss.length nr k ≤ ss.length) := fun k hk => fwN_in ss.length nr k hk
      have HE : Hid (∀ k, k < ss.length → fwG ss.length nr d k = encM ss.length (fwN ss.length nr k)) := fun k hk => by
        have := fwG_enc (n := ss.length) (nr := nr) k hk
        rw [← this]; congr 1; omega
      have HR2 := Lib.hid hM.out.r2
      have e0 : encM ss.length 0 = 0 := by unfold encM; rw [if_neg (by omega)]; rfl
      have KF : Hid (∀ V : World, RowAt V (R + 1) ss.length (fwG ss.length nr d) → Calls Try.prog 103 #[.slice (some ⟨R + 1, 0, none⟩) ss.length ss.length, .int .i64 0] V fun x w' => (∃ v k, x = .returned v ∧ PthEnd ss.length (fwN ss.length nr) 0 k ∧ w'.ownsRow V.heap.size 3 1 v k (pthVs (fwN ss.length nr) 0 k)) ∧ V.grownBy w' none) := fun V hV => by
        have := follow_any (R + 1) ss.length (by omega) (fwN ss.length nr) HG 0 (by omega) V hV HE
        rw [e0] at this; exact this
      have hneg : (d : Int) - 1 - (d : Int) = -1 := by omega
      rw [hneg]
      clear hLa HG HE e0
      go_wp2_with fail
      refine (KF.out _ HR2.out).mono ?_; rintro e w9 ⟨⟨v, k, rfl, hend, hown⟩, hg⟩
      have HEND := Lib.hid hend
      have HOWN := Lib.hid (own_low2 hown hM.out.g.size)
      have HG9 := Lib.hid (grown_trans (grown_below hM.out.g) hg)
      clear hend hown hg
      go_wp2_with fail
      go_ret2
      exact ⟨⟨v, k, rfl, HEND.out, HOWN.out⟩, HG9.out⟩
end Go.Proofs.Ytgkhhfojioepgaa
namespace Go.Proofs.Ytgkhhfojioepgaa
open Go.RowKit
set_option linter.unusedSimpArgs false
set_option linter.unusedVariables false

/-- The reference's row of next ones, after d rounds, and inside round d. -/
def fwR (n : Nat) (nr : Nat → Nat → Bool) (d : Nat) (k : Nat) : Int := ((fwV n nr d).2 k : Nat)
def fwRm (n : Nat) (nr : Nat → Nat → Bool) (d m : Nat) : Nat → Int := updI (fwR n nr d) (n - 2 - d) (if m = 0 then -1 else (fwB (fwV n nr d).1 (nr (n - 2 - d)) (n - 2 - d) (m - 1) : Nat))
theorem fwRm_end {n : Nat} {nr : Nat → Nat → Bool} {d : Nat} : fwRm n nr d (d + 1) = fwR n nr (d + 1) := by
  funext k
  show updI _ _ _ k = (((if k = n - 2 - d then fwB (fwV n nr d).1 (nr (n - 2 - d)) (n - 2 - d) d else (fwV n nr d).2 k : Nat)) : Int)
  unfold updI fwR
  split
  · rw [if_neg (by omega)]; rfl
  · rfl
theorem fwRm_at {n : Nat} {nr : Nat → Nat → Bool} {d m i : Nat} (hi : i = n - 2 - d) : fwRm n nr d (m + 1) i = (fwB (fwV n nr d).1 (nr i) i m : Nat) := by
  subst hi; unfold fwRm updI; rw [if_pos rfl, if_neg (by omega)]; rfl
theorem fwRm_zero {n : Nat} {nr : Nat → Nat → Bool} {d i : Nat} (hi : i = n - 2 - d) : fwRm n nr d 0 = updI (fwR n nr d) i (-1) := by
  subst hi; unfold fwRm; rw [if_pos rfl]
theorem fwRm_one {n : Nat} {nr : Nat → Nat → Bool} {d i i1 : Nat} (hi : i = n - 2 - d) (h1 : i1 = i + 1) : fwRm n nr d 1 = updI (fwRm n nr d 0) i (i1 : Int) := by
  subst hi h1; unfold fwRm; rw [updI_twice, if_neg (by omega)]; rfl
theorem fwR_stay {n : Nat} {nr : Nat → Nat → Bool} {d m i : Nat} (hi : i = n - 2 - d) (h : ¬ ((fwV n nr d).1 (i + 2 + m) < (fwV n nr d).1 (fwB (fwV n nr d).1 (nr i) i m) ∧ nr i (i + 2 + m) = true)) : fwRm n nr d (m + 1 + 1) = fwRm n nr d (m + 1) := by
  subst hi
  have e : fwB (fwV n nr d).1 (nr (n - 2 - d)) (n - 2 - d) (m + 1) = fwB (fwV n nr d).1 (nr (n - 2 - d)) (n - 2 - d) m := by rw [fwB, if_neg h]
  unfold fwRm
  rw [if_neg (by omega), if_neg (by omega), show m + 1 + 1 - 1 = m + 1 by omega, show m + 1 - 1 = m by omega, e]
theorem fwR_go {n : Nat} {nr : Nat → Nat → Bool} {d m i j : Nat} (hi : i = n - 2 - d) (hj : j = i + 2 + m) (h : (fwV n nr d).1 j < (fwV n nr d).1 (fwB (fwV n nr d).1 (nr i) i m)) (h2 : nr i j = true) : fwRm n nr d (m + 1 + 1) = updI (fwRm n nr d (m + 1)) i (j : Nat) := by
  subst hi hj
  have e : fwB (fwV n nr d).1 (nr (n - 2 - d)) (n - 2 - d) (m + 1) = n - 2 - d + 2 + m := by rw [fwB, if_pos ⟨h, h2⟩]
  unfold fwRm
  rw [updI_twice, if_neg (by omega), show m + 1 + 1 - 1 = m + 1 by omega, e]
theorem fwR_next {n : Nat} {nr : Nat → Nat → Bool} {la k : Nat} (hla : n = la + 1) (hk : k < la) : fwR n nr la k = (fwN n nr k : Nat) := by
  unfold fwR fwN; rw [if_pos (by omega), show n - 1 = la by omega]
theorem fwN_last {n : Nat} {nr : Nat → Nat → Bool} {la : Nat} (hla : n = la + 1) : fwN n nr la = n := by
  unfold fwN; rw [if_neg (by omega)]

set_option maxRecDepth 100000 in
set_option maxHeartbeats 4000000 in
theorem rFewest_ok (nm : ByteArray) (sp st : Int) (b off sc : Nat) (ss : List Smp) (lo : Option Addr) (lc : Nat) (ls : List LapV) (to_ : Option Addr) (tc : Nat) (ts : List ByteArray) (most : Int) (m0 : 0 ≤ most) (m1 : most ≤ 100000000) (hl : (ss.length : Int) ≤ 300) (hn1 : 1 ≤ ss.length) (w : World)
    (HA : Hid (ActAt w ⟨nm, sp, st, some ⟨b, off, none⟩, sc, ss, lo, lc, ls, to_, tc, ts⟩)) (HCE : Hid (chkE ⟨nm, sp, st, some ⟨b, off, none⟩, sc, ss, lo, lc, ls, to_, tc, ts⟩ = 0)) (HS : Hid (SOk ss)) {nr : Nat → Nat → Bool} (HNR : Hid (nrS ss most = nr)) :
    Calls Try.prog 43 #[.agg #[.string nm, .int .i64 sp, .int .i64 st, .slice (some ⟨b, off, none⟩) ss.length sc, .slice lo ls.length lc, .slice to_ ts.length tc], .int .i64 most] w fun x w' => (∃ v k, x = .returned (.tuple #[v, .int .i64 0]) ∧ PthEnd ss.length (fwN ss.length nr) 0 k ∧ w'.ownsRow w.heap.size 3 1 v k (pthVs (fwN ss.length nr) 0 k)) ∧ w.grownBy w' none := by
  have hll : ss.length ≤ 300 := by omega
  have hmk := run_make_row' (P := Try.prog) 48 3 (.int .i64 0) 8 Try.underlying48 info_int rfl .i64 .i64 ss.length (by omega) (by omega)
  obtain ⟨la, hla⟩ : ∃ la : Nat, ss.length = la + 1 := ⟨ss.length - 1, by omega⟩
  have HLA := Lib.hid hla
  have hla2 : (ss.length : Int) - 2 = (la : Int) - 1 := by omega
  have rlen : IntKind.i64.wrap ((ss.length : Int) - 2) = (la : Int) - 1 := by rw [hla2]; exact IntWalk.i64_in _ (by omega)
  have hla3 : (ss.length : Int) - 1 = (la : Int) := by omega
  have rlen1 : IntKind.i64.wrap ((ss.length : Int) - 1) = (la : Int) := by rw [hla3]; exact IntWalk.i64_in _ (by omega)
  clear hla
  go_enter Try.func43, Try.ntmps43
  go_wp2_with fail
  refine (rcheck_any ⟨nm, sp, st, some ⟨b, off, none⟩, sc, ss, lo, lc, ls, to_, tc, ts⟩ _ (HA.out.grown (World.grownBy_alloc _ _ _)) HCE).mono ?_; rintro e w1 ⟨rfl, hg1⟩
  have G1 : w.grownBy w1 none := grown_trans (World.grownBy_alloc w (.cells #[.string nm, .int .i64 sp, .int .i64 st, .slice (some ⟨b, off, none⟩) ss.length sc, .slice lo ls.length lc, .slice to_ ts.length tc] 26) none) hg1
  have b3 : w1.cell? ⟨w.heap.size, 3, none⟩ = some (.slice (some ⟨b, off, none⟩) ss.length sc) := grown_cell hg1 (by go_simp)
  have hR0 : w.heap.size < w1.heap.size := by have := hg1.size; simp at this; omega
  have HAS := Lib.hid (HA.out.hs)
  clear hg1
  have GW := Lib.hid G1
  have HR0 : Hid (w.heap.size < w1.heap.size) := hR0
  have HB3 := Lib.hid b3
  clear G1 hR0
  go_wp2_with fail
  refine (rout_no _ _ _ m0 m1 _).mono ?_; rintro e w2 ⟨rfl, rfl⟩
  have hcap : decide ((300 : Int) < (ss.length : Int)) = false := by simp; omega
  have HK := Lib.hid (kr_new (w := w) (w1 := w1.drew) (so := some ⟨b, off, none⟩) (sn := ss.length) (sc := sc) (n := ss.length) (F := fwF ss.length nr 0) (G := fwR ss.length nr 0) HB3.out (below_grown (grown_trans GW.out (grown_drewN _ _ 1))) HR0.out (fun k _ => by simp [fwF, fwV]) (fun k _ => by simp [fwR, fwV]))
  go_upto_region 9 with (fail)
  go_cut [8, 9] (fun s8 s9 wx => ∃ R T, s8 = .slice (some ⟨R, 0, none⟩) ss.length ss.length ∧ s9 = .slice (some ⟨T, 0, none⟩) ss.length ss.length ∧ KrM w (some ⟨b, off, none⟩) ss.length sc R T ss.length (fwF ss.length nr 0) (fwR ss.length nr 0) wx ∧ (w.heap.size < R ∧ w.heap.size < T ∧ R ≠ T))
  case first =>
    go_region
    all_goals
      go_wp2_with fail
      go_meet
      have h0 := HR0.out
      first
        | exact ⟨_, _, rfl, rfl, HK.out.1, h0, by omega, by omega⟩
        | exact ⟨_, _, rfl, rfl, HK.out.2, by omega, h0, by omega⟩
  case rest =>
    obtain ⟨R, T, rfl, rfl, hM0, hRT⟩ := hcut
    have HM0 := Lib.hid hM0
    have HR := Lib.hid hRT
    have HL := Lib.hid hll
    clear hM0 hRT b3 hmk HK
    go_wp2_with fail
    go_loopw [10] (fun iv wr => ∃ (d : Nat), d ≤ la ∧ iv = .int .i64 ((la : Int) - 1 - d) ∧ Hid (KrM w (some ⟨b, off, none⟩) ss.length sc R T ss.length (fwF ss.length nr d) (fwR ss.length nr d) wr))
      (fun iv _ => (intOf iv + 1).toNat)
    case atStart => exact ⟨0, Nat.zero_le _, by go_num, HM0.out⟩
    case round =>
      obtain ⟨d, hd, rfl, hM⟩ := hrel
      by_cases hlt : d < la
      · obtain ⟨i, hi⟩ : ∃ i : Nat, i = ss.length - 2 - d := ⟨_, rfl⟩
        have hLa := HLA.out
        have hi2 : (la : Int) - 1 - (d : Int) = (i : Int) := by omega
        have HI := Lib.hid hi
        have HIN : Hid (i + d + 2 = ss.length) := by show _ = _; omega
        rw [hi2]
        have hin : i < ss.length := by omega
        have hin2 : (i : Int) < (ss.length : Int) := by omega
        have hi0 : (0 : Int) ≤ (i : Int) := by omega
        have c1 := hM.out.r2.cell (k := i) hin
        have fr1 := hM.out.r2.free i
        have HM3 : Hid (KrM w (some ⟨b, off, none⟩) ss.length sc R T ss.length (fwF ss.length nr d) (fwRm ss.length nr d 0) (wr.setCell ⟨T, i, none⟩ (.int .i64 (-1)))) := by
          show KrM _ _ _ _ _ _ _ _ _ _
          rw [fwRm_zero hi]; exact hM.out.set2 HR.out i (-1)
        have wi1 : IntKind.i64.wrap ((i : Int) + 1) = (i : Int) + 1 := IntWalk.i64_in _ (by omega)
        have wim : IntKind.i64.wrap ((i : Int) - 1) = (i : Int) - 1 := IntWalk.i64_in _ (by omega)
        clear hM hi hLa
        go_wp2_with fail
        clear c1 fr1
        go_loopw [11] (fun jv w3 => ∃ (m : Nat), m ≤ d + 1 ∧ jv = .int .i64 ((i : Int) + 1 + m) ∧ Hid (KrM w (some ⟨b, off, none⟩) ss.length sc R T ss.length (fwF ss.length nr d) (fwRm ss.length nr d m) w3))
          (fun jv _ => ss.length - (intOf jv).toNat)
        case atStart => exact ⟨0, Nat.zero_le _, by go_num, HM3.out⟩
        case round =>
          obtain ⟨m, hm, rfl, hMi⟩ := hrel
          by_cases hml : m < d + 1
          · obtain ⟨j, hj⟩ : ∃ j : Nat, j = i + 1 + m := ⟨_, rfl⟩
            have hj2 : (i : Int) + 1 + (m : Int) = (j : Int) := by omega
            have HJ := Lib.hid hj
            have hij : i < j := by omega
            have hjn : j < ss.length := by have := HIN.out; omega
            have hjn2 : (j : Int) < (ss.length : Int) := by omega
            have hj0 : (0 : Int) ≤ (j : Int) := by omega
            have HMEA : Hid (∀ q : Int, q = (j : Int) + 1 → ss.length - q.toNat < ss.length - (j : Int).toNat) := fun q hq => by subst hq; omega
            rw [hj2]
            have b3 := hMi.out.b3
            by_cases hm0 : m = 0
            · subst hm0
              have c2 : wr.cell? ⟨T, i, none⟩ = some (.int .i64 (-1)) := by
                have q := hMi.out.r2.cell (k := i) hin
                rw [fwRm_zero HI.out] at q
                unfold updI at q
                rw [if_pos rfl] at q
                exact q
              have HNP : Hid (NearP ss i j (most * most)) := fun k h1 h2 => absurd h2 (by have := HJ.out; omega)
              have HSW : Hid (∀ W : World, (wr.grownBy W none ∧ World.cell? W ⟨w.heap.size, 3, none⟩ = some (.slice (some ⟨b, off, none⟩) ss.length sc) ∧ World.cell? W ⟨T, i, none⟩ = some (.int .i64 (-1))) → SmpsAt W (some ⟨b, off, none⟩) ss) := fun W h => (HAS.out.grown (grown_below hMi.out.g)).grown h.1
              have hS0 : (wr.grownBy wr none ∧ World.cell? wr ⟨w.heap.size, 3, none⟩ = some (.slice (some ⟨b, off, none⟩) ss.length sc) ∧ World.cell? wr ⟨T, i, none⟩ = some (.int .i64 (-1))) := ⟨grown_refl _ _, b3, c2⟩
              have hstep : ∀ W W' : World, (wr.grownBy W none ∧ World.cell? W ⟨w.heap.size, 3, none⟩ = some (.slice (some ⟨b, off, none⟩) ss.length sc) ∧ World.cell? W ⟨T, i, none⟩ = some (.int .i64 (-1))) → W.grownBy W' none → (wr.grownBy W' none ∧ World.cell? W' ⟨w.heap.size, 3, none⟩ = some (.slice (some ⟨b, off, none⟩) ss.length sc) ∧ World.cell? W' ⟨T, i, none⟩ = some (.int .i64 (-1))) := fun W W' h g => ⟨grown_trans h.1 g, grown_cell g h.2.1, grown_cell g h.2.2⟩
              have HSTEP := Lib.hid hstep; have HSD : Hid (wr.grownBy wr.drew none ∧ World.cell? wr.drew ⟨w.heap.size, 3, none⟩ = some (.slice (some ⟨b, off, none⟩) ss.length sc) ∧ World.cell? wr.drew ⟨T, i, none⟩ = some (.int .i64 (-1))) := hstep _ _ hS0 (grown_drewN wr none 1)
              clear hS0 hstep hj
              go_wp2_with fail
              clear b3 c2
              refine wp_region_held_drew (S := fun W => (wr.grownBy W none ∧ World.cell? W ⟨w.heap.size, 3, none⟩ = some (.slice (some ⟨b, off, none⟩) ss.length sc) ∧ World.cell? W ⟨T, i, none⟩ = some (.int .i64 (-1)))) (by kernel_rfl) HSD.out (fun hHeld => ?_)
              refine wpAnyH_take (i := 0) (oi := ?oi0) (v := .slice (some ⟨T, 0, none⟩) ss.length ss.length) ?hi0 (by kernel_rfl) (by kernel_rfl) (by kernel_rfl) ?hq0 ?hy0 hHeld ?rest0
              case hi0 => simp only [List.getElem?_toArray, List.getElem?_cons_succ, List.getElem?_cons_zero, Option.some.injEq]; rfl
              case hq0 => exact fun _ _ _ h => h
              case hy0 =>
                refine Or.inl ⟨by rfl, fun V hV => ?_⟩
                clear hV
                go_simp
              try simp only [Go.Act.put, List.setIfInBounds_toArray, List.set_cons_zero, List.set_cons_succ]
              refine wpAnyH_take (i := 1) (oi := ?oi1) (v := .int .i64 (i : Nat)) ?hi1 (by kernel_rfl) (by kernel_rfl) (by kernel_rfl) ?hq1 ?hy1 hHeld ?rest1
              case hi1 => simp only [List.getElem?_toArray, List.getElem?_cons_succ, List.getElem?_cons_zero, Option.some.injEq]; rfl
              case hq1 => exact fun _ _ _ h => h
              case hy1 =>
                refine Or.inl ⟨by rfl, fun V hV => ?_⟩
                clear hV
                go_simp
              try simp only [Go.Act.put, List.setIfInBounds_toArray, List.set_cons_zero, List.set_cons_succ]
              refine wpAnyH_take (i := 2) (oi := ?oi2) (v := .pointer (some ⟨T, i, none⟩)) ?hi2 (by kernel_rfl) (by kernel_rfl) (by kernel_rfl) ?hq2 ?hy2 hHeld ?rest2
              case hi2 => simp only [List.getElem?_toArray, List.getElem?_cons_succ, List.getElem?_cons_zero, Option.some.injEq]; rfl
              case hq2 => exact fun _ _ _ h => h
              case hy2 =>
                refine Or.inl ⟨by rfl, fun V hV => ?_⟩
                clear hV
                go_simp
              try simp only [Go.Act.put, List.setIfInBounds_toArray, List.set_cons_zero, List.set_cons_succ]
              refine wpAnyH_take (i := 3) (oi := ?oi3) (v := .int .i64 (-1)) ?hi3 (by kernel_rfl) (by kernel_rfl) (by kernel_rfl) ?hq3 ?hy3 hHeld ?rest3
              case hi3 => simp only [List.getElem?_toArray, List.getElem?_cons_succ, List.getElem?_cons_zero, Option.some.injEq]; rfl
              case hq3 => exact fun _ _ _ h => h
              case hy3 =>
                refine Or.inl ⟨by rfl, fun V hV => ?_⟩
                obtain ⟨-, hb3, hc2⟩ := hV
                go_simp
              try simp only [Go.Act.put, List.setIfInBounds_toArray, List.set_cons_zero, List.set_cons_succ]
              refine wpAnyH_take (i := 4) (oi := ?oi4) (v := .bool true) ?hi4 (by kernel_rfl) (by kernel_rfl) (by kernel_rfl) ?hq4 ?hy4 hHeld ?rest4
              case hi4 => simp only [List.getElem?_toArray, List.getElem?_cons_succ, List.getElem?_cons_zero, Option.some.injEq]; rfl
              case hq4 => exact fun _ _ _ h => h
              case hy4 =>
                refine Or.inl ⟨by rfl, fun V hV => ?_⟩
                clear hV
                go_simp
              try simp only [Go.Act.put, List.setIfInBounds_toArray, List.set_cons_zero, List.set_cons_succ]
              refine wpAnyH_take (i := 5) (oi := ?oi5) (v := .bool true) ?hi5 (by kernel_rfl) (by kernel_rfl) (by kernel_rfl) ?hq5 ?hy5 hHeld ?rest5
              case hi5 => simp only [List.getElem?_toArray, List.getElem?_cons_succ, List.getElem?_cons_zero, Option.some.injEq]; rfl
              case hq5 => exact fun _ _ _ h => h
              case hy5 =>
                refine Or.inl ⟨by rfl, fun V hV => ?_⟩
                clear hV
                go_simp
              try simp only [Go.Act.put, List.setIfInBounds_toArray, List.set_cons_zero, List.set_cons_succ]
              refine wpAnyH_take (i := 6) (oi := ?oi6) (v := undef) ?hi6 (by kernel_rfl) (by kernel_rfl) (by kernel_rfl) ?hq6 ?hy6 hHeld ?rest6
              case hi6 => simp only [List.getElem?_toArray, List.getElem?_cons_succ, List.getElem?_cons_zero, Option.some.injEq]; rfl
              case hq6 => exact fun _ _ _ h => h
              case hy6 => exact Or.inr ⟨by kernel_rfl, rfl⟩
              try simp only [Go.Act.put, List.setIfInBounds_toArray, List.set_cons_zero, List.set_cons_succ]
              refine wpAnyH_take (i := 7) (oi := ?oi7) (v := undef) ?hi7 (by kernel_rfl) (by kernel_rfl) (by kernel_rfl) ?hq7 ?hy7 hHeld ?rest7
              case hi7 => simp only [List.getElem?_toArray, List.getElem?_cons_succ, List.getElem?_cons_zero, Option.some.injEq]; rfl
              case hq7 => exact fun _ _ _ h => h
              case hy7 => exact Or.inr ⟨by kernel_rfl, rfl⟩
              try simp only [Go.Act.put, List.setIfInBounds_toArray, List.set_cons_zero, List.set_cons_succ]
              refine wpAnyH_take (i := 8) (oi := ?oi8) (v := undef) ?hi8 (by kernel_rfl) (by kernel_rfl) (by kernel_rfl) ?hq8 ?hy8 hHeld ?rest8
              case hi8 => simp only [List.getElem?_toArray, List.getElem?_cons_succ, List.getElem?_cons_zero, Option.some.injEq]; rfl
              case hq8 => exact fun _ _ _ h => h
              case hy8 => exact Or.inr ⟨by kernel_rfl, rfl⟩
              try simp only [Go.Act.put, List.setIfInBounds_toArray, List.set_cons_zero, List.set_cons_succ]
              refine wpAnyH_take (i := 9) (oi := ?oi9) (v := undef) ?hi9 (by kernel_rfl) (by kernel_rfl) (by kernel_rfl) ?hq9 ?hy9 hHeld ?rest9
              case hi9 => simp only [List.getElem?_toArray, List.getElem?_cons_succ, List.getElem?_cons_zero, Option.some.injEq]; rfl
              case hq9 => exact fun _ _ _ h => h
              case hy9 => exact Or.inr ⟨by kernel_rfl, rfl⟩
              try simp only [Go.Act.put, List.setIfInBounds_toArray, List.set_cons_zero, List.set_cons_succ]
              refine wpAnyH_take (i := 10) (oi := ?oi10) (v := undef) ?hi10 (by kernel_rfl) (by kernel_rfl) (by kernel_rfl) ?hq10 ?hy10 hHeld ?rest10
              case hi10 => simp only [List.getElem?_toArray, List.getElem?_cons_succ, List.getElem?_cons_zero, Option.some.injEq]; rfl
              case hq10 => exact fun _ _ _ h => h
              case hy10 => exact Or.inr ⟨by kernel_rfl, rfl⟩
              try simp only [Go.Act.put, List.setIfInBounds_toArray, List.set_cons_zero, List.set_cons_succ]
              refine wpAnyH_take (i := 11) (oi := ?oi11) (v := undef) ?hi11 (by kernel_rfl) (by kernel_rfl) (by kernel_rfl) ?hq11 ?hy11 hHeld ?rest11
              case hi11 => simp only [List.getElem?_toArray, List.getElem?_cons_succ, List.getElem?_cons_zero, Option.some.injEq]; rfl
              case hq11 => exact fun _ _ _ h => h
              case hy11 => exact Or.inr ⟨by kernel_rfl, rfl⟩
              try simp only [Go.Act.put, List.setIfInBounds_toArray, List.set_cons_zero, List.set_cons_succ]
              refine wpAnyH_take (i := 12) (oi := ?oi12) (v := undef) ?hi12 (by kernel_rfl) (by kernel_rfl) (by kernel_rfl) ?hq12 ?hy12 hHeld ?rest12
              case hi12 => simp only [List.getElem?_toArray, List.getElem?_cons_succ, List.getElem?_cons_zero, Option.some.injEq]; rfl
              case hq12 => exact fun _ _ _ h => h
              case hy12 => exact Or.inr ⟨by kernel_rfl, rfl⟩
              try simp only [Go.Act.put, List.setIfInBounds_toArray, List.set_cons_zero, List.set_cons_succ]
              refine wpAnyH_take (i := 13) (oi := ?oi13) (v := undef) ?hi13 (by kernel_rfl) (by kernel_rfl) (by kernel_rfl) ?hq13 ?hy13 hHeld ?rest13
              case hi13 => simp only [List.getElem?_toArray, List.getElem?_cons_succ, List.getElem?_cons_zero, Option.some.injEq]; rfl
              case hq13 => exact fun _ _ _ h => h
              case hy13 => exact Or.inr ⟨by kernel_rfl, rfl⟩
              try simp only [Go.Act.put, List.setIfInBounds_toArray, List.set_cons_zero, List.set_cons_succ]
              refine wpAnyH_take (i := 14) (oi := ?oi14) (v := undef) ?hi14 (by kernel_rfl) (by kernel_rfl) (by kernel_rfl) ?hq14 ?hy14 hHeld ?rest14
              case hi14 => simp only [List.getElem?_toArray, List.getElem?_cons_succ, List.getElem?_cons_zero, Option.some.injEq]; rfl
              case hq14 => exact fun _ _ _ h => h
              case hy14 => exact Or.inr ⟨by kernel_rfl, rfl⟩
              try simp only [Go.Act.put, List.setIfInBounds_toArray, List.set_cons_zero, List.set_cons_succ]
              refine wpAnyH_take (i := 15) (oi := ?oi15) (v := undef) ?hi15 (by kernel_rfl) (by kernel_rfl) (by kernel_rfl) ?hq15 ?hy15 hHeld ?rest15
              case hi15 => simp only [List.getElem?_toArray, List.getElem?_cons_succ, List.getElem?_cons_zero, Option.some.injEq]; rfl
              case hq15 => exact fun _ _ _ h => h
              case hy15 => exact Or.inr ⟨by kernel_rfl, rfl⟩
              try simp only [Go.Act.put, List.setIfInBounds_toArray, List.set_cons_zero, List.set_cons_succ]
              refine wpAnyH_take (i := 16) (oi := ?oi16) (v := undef) ?hi16 (by kernel_rfl) (by kernel_rfl) (by kernel_rfl) ?hq16 ?hy16 hHeld ?rest16
              case hi16 => simp only [List.getElem?_toArray, List.getElem?_cons_succ, List.getElem?_cons_zero, Option.some.injEq]; rfl
              case hq16 => exact fun _ _ _ h => h
              case hy16 => exact Or.inr ⟨by kernel_rfl, rfl⟩
              try simp only [Go.Act.put, List.setIfInBounds_toArray, List.set_cons_zero, List.set_cons_succ]
              refine wpAnyH_take (i := 17) (oi := ?oi17) (v := undef) ?hi17 (by kernel_rfl) (by kernel_rfl) (by kernel_rfl) ?hq17 ?hy17 hHeld ?rest17
              case hi17 => simp only [List.getElem?_toArray, List.getElem?_cons_succ, List.getElem?_cons_zero, Option.some.injEq]; rfl
              case hq17 => exact fun _ _ _ h => h
              case hy17 => exact Or.inr ⟨by kernel_rfl, rfl⟩
              try simp only [Go.Act.put, List.setIfInBounds_toArray, List.set_cons_zero, List.set_cons_succ]
              refine wpAnyH_take (i := 18) (oi := ?oi18) (v := .bool true) ?hi18 (by kernel_rfl) (by kernel_rfl) (by kernel_rfl) ?hq18 ?hy18 hHeld ?rest18
              case hi18 => simp only [List.getElem?_toArray, List.getElem?_cons_succ, List.getElem?_cons_zero, Option.some.injEq]; rfl
              case hq18 => exact fun _ _ _ h => h
              case hy18 =>
                refine Or.inl ⟨by rfl, fun V hV => ?_⟩
                clear hV
                go_simp
              try simp only [Go.Act.put, List.setIfInBounds_toArray, List.set_cons_zero, List.set_cons_succ]
              refine wpAnyH_take (i := 19) (oi := ?oi19) (v := .bool true) ?hi19 (by kernel_rfl) (by kernel_rfl) (by kernel_rfl) ?hq19 ?hy19 hHeld ?rest19
              case hi19 => simp only [List.getElem?_toArray, List.getElem?_cons_succ, List.getElem?_cons_zero, Option.some.injEq]; rfl
              case hq19 => exact fun _ _ _ h => h
              case hy19 =>
                refine Or.inl ⟨by rfl, fun V hV => ?_⟩
                clear hV
                go_simp
              try simp only [Go.Act.put, List.setIfInBounds_toArray, List.set_cons_zero, List.set_cons_succ]
              refine wpAnyH_take (i := 20) (oi := ?oi20) (v := .pointer (some ⟨w.heap.size, 3, none⟩)) ?hi20 (by kernel_rfl) (by kernel_rfl) (by kernel_rfl) ?hq20 ?hy20 hHeld ?rest20
              case hi20 => simp only [List.getElem?_toArray, List.getElem?_cons_succ, List.getElem?_cons_zero, Option.some.injEq]; rfl
              case hq20 => exact fun _ _ _ h => h
              case hy20 =>
                refine Or.inl ⟨by rfl, fun V hV => ?_⟩
                clear hV
                go_simp
              try simp only [Go.Act.put, List.setIfInBounds_toArray, List.set_cons_zero, List.set_cons_succ]
              refine wpAnyH_take (i := 21) (oi := ?oi21) (v := .slice (some ⟨b, off, none⟩) ss.length sc) ?hi21 (by kernel_rfl) (by kernel_rfl) (by kernel_rfl) ?hq21 ?hy21 hHeld ?rest21
              case hi21 => simp only [List.getElem?_toArray, List.getElem?_cons_succ, List.getElem?_cons_zero, Option.some.injEq]; rfl
              case hq21 => exact fun _ _ _ h => h
              case hy21 =>
                refine Or.inl ⟨by rfl, fun V hV => ?_⟩
                obtain ⟨-, hb3, hc2⟩ := hV
                go_simp
              try simp only [Go.Act.put, List.setIfInBounds_toArray, List.set_cons_zero, List.set_cons_succ]
              refine wpAnyH_take (i := 22) (oi := ?oi22) (v := .int .i64 (i : Nat)) ?hi22 (by kernel_rfl) (by kernel_rfl) (by kernel_rfl) ?hq22 ?hy22 hHeld ?rest22
              case hi22 => simp only [List.getElem?_toArray, List.getElem?_cons_succ, List.getElem?_cons_zero, Option.some.injEq]; rfl
              case hq22 => exact fun _ _ _ h => h
              case hy22 =>
                refine Or.inl ⟨by rfl, fun V hV => ?_⟩
                clear hV
                go_simp
              try simp only [Go.Act.put, List.setIfInBounds_toArray, List.set_cons_zero, List.set_cons_succ]
              refine wpAnyH_take (i := 23) (oi := ?oi23) (v := .int .i64 (j : Nat)) ?hi23 (by kernel_rfl) (by kernel_rfl) (by kernel_rfl) ?hq23 ?hy23 hHeld ?rest23
              case hi23 => simp only [List.getElem?_toArray, List.getElem?_cons_succ, List.getElem?_cons_zero, Option.some.injEq]; rfl
              case hq23 => exact fun _ _ _ h => h
              case hy23 =>
                refine Or.inl ⟨by rfl, fun V hV => ?_⟩
                clear hV
                go_simp
              try simp only [Go.Act.put, List.setIfInBounds_toArray, List.set_cons_zero, List.set_cons_succ]
              refine wpAnyH_take (i := 24) (oi := ?oi24) (v := .int .i64 most) ?hi24 (by kernel_rfl) (by kernel_rfl) (by kernel_rfl) ?hq24 ?hy24 hHeld ?rest24
              case hi24 => simp only [List.getElem?_toArray, List.getElem?_cons_succ, List.getElem?_cons_zero, Option.some.injEq]; rfl
              case hq24 => exact fun _ _ _ h => h
              case hy24 =>
                refine Or.inl ⟨by rfl, fun V hV => ?_⟩
                clear hV
                go_simp
              try simp only [Go.Act.put, List.setIfInBounds_toArray, List.set_cons_zero, List.set_cons_succ]
              refine wpAnyH_ready (rs := [25]) (by kernel_rfl) (by simp) ?_
              refine AllReadyH.cons rfl (fun K hK => ?_) AllReadyH.nil
              go_simp
              refine (stands_is b off sc ss HS i j hij hjn most m0 m1 _ (HSW.out _ hHeld) (bb := true) (Iff.intro (fun _ => HNP.out) (fun _ => rfl))).mono ?_
              rintro e w9 ⟨rfl, hg9⟩
              refine hK.out _ _ (HSTEP.out _ _ hHeld hg9) (fun hHeld1 => ?_)
              clear hK K
              try simp only [Go.Act.put, List.setIfInBounds_toArray, List.set_cons_zero, List.set_cons_succ]
              refine wpAnyH_take (i := 26) (oi := ?oi26) (v := .bool true) ?hi26 (by kernel_rfl) (by kernel_rfl) (by kernel_rfl) ?hq26 ?hy26 hHeld1 ?rest26
              case hi26 => simp only [List.getElem?_toArray, List.getElem?_cons_succ, List.getElem?_cons_zero, Option.some.injEq]; rfl
              case hq26 => exact fun _ _ _ h => h
              case hy26 =>
                refine Or.inl ⟨by rfl, fun V hV => ?_⟩
                clear hV
                go_simp
              try simp only [Go.Act.put, List.setIfInBounds_toArray, List.set_cons_zero, List.set_cons_succ]
              refine wpAnyH_done (by kernel_rfl) ?_ _
              have HM7 := hMi.out.grown hHeld1.1
              clear hHeld hHeld1 hg9 HSTEP HSD
              have d2 := HM7.r2.cell (k := i) hin
              have e2 := HM7.r2.free i
              have HN : Hid (KrM w (some ⟨b, off, none⟩) ss.length sc R T ss.length (fwF ss.length nr d) (fwRm ss.length nr d (0 + 1)) (w9.setCell ⟨T, i, none⟩ (.int .i64 (j : Nat)))) := by
                show KrM _ _ _ _ _ _ _ _ _ _
                rw [fwRm_one (i1 := j) HI.out (by have := HJ.out; omega)]; exact HM7.set2 HR.out i j
              clear HM7 hMi
              go_wp2_with fail
              go_roundw
              case rel => exact ⟨0 + 1, by omega, by rw [← hj2]; go_num, HN.out⟩
              case measure => first | (simp [intOf]; done) | (simp [intOf]; omega)
            · obtain ⟨p, rfl⟩ : ∃ p, m = p + 1 := ⟨m - 1, by omega⟩
              obtain ⟨x, hx⟩ : ∃ x, fwB (fwV ss.length nr d).1 (nr i) i p = x := ⟨_, rfl⟩
              have hxb := fwB_in (fwV ss.length nr d).1 (nr i) i p
              rw [hx] at hxb
              have HX := Lib.hid hx
              have hxn : x < ss.length := by have := HIN.out; omega
              have hxn2 : (x : Int) < (ss.length : Int) := by omega
              have hx0 : (0 : Int) ≤ (x : Int) := by omega
              have c2 : wr.cell? ⟨T, i, none⟩ = some (.int .i64 (x : Nat)) := by
                have q := hMi.out.r2.cell (k := i) hin
                rw [fwRm_at HI.out, hx] at q
                exact q
              have c1 : wr.cell? ⟨R, j, none⟩ = some (.int .i64 ((fwV ss.length nr d).1 j : Nat)) := hMi.out.r1.cell (k := j) hjn
              have c3 : wr.cell? ⟨R, x, none⟩ = some (.int .i64 ((fwV ss.length nr d).1 x : Nat)) := hMi.out.r1.cell (k := x) hxn
              have hneg : decide ((x : Int) < 0) = false := by simp
              obtain ⟨u, hu⟩ : ∃ u, (fwV ss.length nr d).1 j = u := ⟨_, rfl⟩
              obtain ⟨v, hv⟩ : ∃ v, (fwV ss.length nr d).1 x = v := ⟨_, rfl⟩
              rw [hu] at c1
              rw [hv] at c3
              have HU := Lib.hid hu; have HV := Lib.hid hv
              clear hu hv hj hx hxb
              by_cases hle : u < v
              · obtain ⟨bb, hbb⟩ : ∃ bb, nr i j = bb := ⟨_, rfl⟩
                have HB : Hid (bb = true ↔ NearP ss i j (most * most)) := by
                  show _ ↔ _
                  rw [← hbb, ← HNR.out]; exact nrS_iff
                have HBB := Lib.hid hbb
                have HSW : Hid (∀ W : World, (wr.grownBy W none ∧ World.cell? W ⟨w.heap.size, 3, none⟩ = some (.slice (some ⟨b, off, none⟩) ss.length sc) ∧ World.cell? W ⟨T, i, none⟩ = some (.int .i64 (x : Nat)) ∧ World.cell? W ⟨R, j, none⟩ = some (.int .i64 (u : Nat)) ∧ World.cell? W ⟨R, x, none⟩ = some (.int .i64 (v : Nat))) → SmpsAt W (some ⟨b, off, none⟩) ss) := fun W h => (HAS.out.grown (grown_below hMi.out.g)).grown h.1
                have g1 : decide (((u : Nat) : Int) < ((v : Nat) : Int)) = true := by simp; omega
                have g2 : ((u : Nat) : Int) < ((v : Nat) : Int) := by omega
                have hS0 : (wr.grownBy wr none ∧ World.cell? wr ⟨w.heap.size, 3, none⟩ = some (.slice (some ⟨b, off, none⟩) ss.length sc) ∧ World.cell? wr ⟨T, i, none⟩ = some (.int .i64 (x : Nat)) ∧ World.cell? wr ⟨R, j, none⟩ = some (.int .i64 (u : Nat)) ∧ World.cell? wr ⟨R, x, none⟩ = some (.int .i64 (v : Nat))) := ⟨grown_refl _ _, b3, c2, c1, c3⟩
                have hstep : ∀ W W' : World, (wr.grownBy W none ∧ World.cell? W ⟨w.heap.size, 3, none⟩ = some (.slice (some ⟨b, off, none⟩) ss.length sc) ∧ World.cell? W ⟨T, i, none⟩ = some (.int .i64 (x : Nat)) ∧ World.cell? W ⟨R, j, none⟩ = some (.int .i64 (u : Nat)) ∧ World.cell? W ⟨R, x, none⟩ = some (.int .i64 (v : Nat))) → W.grownBy W' none → (wr.grownBy W' none ∧ World.cell? W' ⟨w.heap.size, 3, none⟩ = some (.slice (some ⟨b, off, none⟩) ss.length sc) ∧ World.cell? W' ⟨T, i, none⟩ = some (.int .i64 (x : Nat)) ∧ World.cell? W' ⟨R, j, none⟩ = some (.int .i64 (u : Nat)) ∧ World.cell? W' ⟨R, x, none⟩ = some (.int .i64 (v : Nat))) := fun W W' h g => ⟨grown_trans h.1 g, grown_cell g h.2.1, grown_cell g h.2.2.1, grown_cell g h.2.2.2.1, grown_cell g h.2.2.2.2⟩
                have HSTEP := Lib.hid hstep; have HSD : Hid (wr.grownBy wr.drew none ∧ World.cell? wr.drew ⟨w.heap.size, 3, none⟩ = some (.slice (some ⟨b, off, none⟩) ss.length sc) ∧ World.cell? wr.drew ⟨T, i, none⟩ = some (.int .i64 (x : Nat)) ∧ World.cell? wr.drew ⟨R, j, none⟩ = some (.int .i64 (u : Nat)) ∧ World.cell? wr.drew ⟨R, x, none⟩ = some (.int .i64 (v : Nat))) := hstep _ _ hS0 (grown_drewN wr none 1)
                clear hS0 hstep hbb
                go_wp2_with fail
                clear b3 c1 c2 c3
                go_region_held3 (fun W => (wr.grownBy W none ∧ World.cell? W ⟨w.heap.size, 3, none⟩ = some (.slice (some ⟨b, off, none⟩) ss.length sc) ∧ World.cell? W ⟨T, i, none⟩ = some (.int .i64 (x : Nat)) ∧ World.cell? W ⟨R, j, none⟩ = some (.int .i64 (u : Nat)) ∧ World.cell? W ⟨R, x, none⟩ = some (.int .i64 (v : Nat)))) (first | exact HSD.out | (refine HSTEP.out _ _ ?_ (by assumption) <;> assumption)) (first
                  | (go_at_call 104; refine (stands_is b off sc ss HS i j hij hjn most m0 m1 _ (HSW.out _ (by first | assumption | exact HSD.out)) HB).mono ?_; rintro x7 w7 ⟨rfl, hg7⟩))
                all_goals
                  rename_i hfin
                  obtain ⟨w9, hw9⟩ : ∃ w9, w9 = w7 := ⟨_, rfl⟩
                  subst hw9
                  have HM7 := hMi.out.grown hfin.1
                  clear hfin HSTEP HSD
                  have hjp : j = i + 2 + p := by have := HJ.out; omega
                  cases bb with
                  | false =>
                    have HN : Hid (KrM w (some ⟨b, off, none⟩) ss.length sc R T ss.length (fwF ss.length nr d) (fwRm ss.length nr d (p + 1 + 1)) w9) := by
                      have e := fwR_stay (n := ss.length) (nr := nr) (d := d) (m := p) HI.out (fun h => by have := HBB.out; rw [hjp] at this; rw [h.2] at this; cases this)
                      show KrM _ _ _ _ _ _ _ _ _ _
                      rw [e]; exact HM7
                    clear HM7 hMi hjp
                    go_wp2_with fail
                    go_roundw
                    case rel => exact ⟨p + 1 + 1, by omega, by rw [← hj2]; go_num, HN.out⟩
                    case measure => first | (simp [intOf]; done) | (simp [intOf]; omega)
                  | true =>
                    have d2 := HM7.r2.cell (k := i) hin
                    have e2 := HM7.r2.free i
                    have HN : Hid (KrM w (some ⟨b, off, none⟩) ss.length sc R T ss.length (fwF ss.length nr d) (fwRm ss.length nr d (p + 1 + 1)) (w9.setCell ⟨T, i, none⟩ (.int .i64 (j : Nat)))) := by
                      have e := fwR_go (n := ss.length) (nr := nr) (d := d) (m := p) HI.out hjp (by rw [HX.out, HU.out, HV.out]; exact hle) HBB.out
                      show KrM _ _ _ _ _ _ _ _ _ _
                      rw [e]; exact HM7.set2 HR.out i j
                    clear HM7 hMi hjp
                    go_wp2_with fail
                    go_roundw
                    case rel => exact ⟨p + 1 + 1, by omega, by rw [← hj2]; go_num, HN.out⟩
                    case measure => first | (simp [intOf]; done) | (simp [intOf]; omega)
              · have g1 : decide (((u : Nat) : Int) < ((v : Nat) : Int)) = false := by simp; omega
                have g2 : ¬ (((u : Nat) : Int) < ((v : Nat) : Int)) := by omega
                go_wp2_with fail
                go_quiet (fail)
                have HN : Hid (KrM w (some ⟨b, off, none⟩) ss.length sc R T ss.length (fwF ss.length nr d) (fwRm ss.length nr d (p + 1 + 1)) (wr.drewN nq)) := by
                  have e := fwR_stay (n := ss.length) (nr := nr) (d := d) (m := p) HI.out (fun h => by have := h.1; rw [show i + 2 + p = j by have := HJ.out; omega, HX.out, HU.out, HV.out] at this; omega)
                  show KrM _ _ _ _ _ _ _ _ _ _
                  rw [e]; exact hMi.out.grown (grown_drewN _ _ _)
                clear hMi b3 c1 c2 c3
                go_wp2_with fail
                go_roundw
                case rel => exact ⟨p + 1 + 1, by omega, by rw [← hj2]; go_num, HN.out⟩
                case measure => first | (simp [intOf]; done) | (simp [intOf]; omega)
          · obtain rfl : m = d + 1 := by omega
            obtain ⟨x, hx⟩ : ∃ x, fwB (fwV ss.length nr d).1 (nr i) i d = x := ⟨_, rfl⟩
            have hxb := fwB_in (fwV ss.length nr d).1 (nr i) i d
            rw [hx] at hxb
            have HX := Lib.hid hx
            have hxn : x < ss.length := by have := HIN.out; omega
            have hxn2 : (x : Int) < (ss.length : Int) := by omega
            have hx0 : (0 : Int) ≤ (x : Int) := by omega
            have c2 : wr.cell? ⟨T, i, none⟩ = some (.int .i64 (x : Nat)) := by
              have q := hMi.out.r2.cell (k := i) hin
              rw [fwRm_at HI.out, hx] at q
              exact q
            have c3 : wr.cell? ⟨R, x, none⟩ = some (.int .i64 ((fwV ss.length nr d).1 x : Nat)) := hMi.out.r1.cell (k := x) hxn
            have hvb := fw_le ss.length nr d x
            obtain ⟨v, hv⟩ : ∃ v, (fwV ss.length nr d).1 x = v := ⟨_, rfl⟩
            rw [hv] at c3 hvb
            have c1 := hMi.out.r1.cell (k := i) hin
            have fr1 := hMi.out.r1.free i
            have rv : IntKind.i64.wrap ((v : Int) + 1) = (v : Int) + 1 := IntWalk.i64_in _ (by omega)
            have HN : Hid (KrM w (some ⟨b, off, none⟩) ss.length sc R T ss.length (fwF ss.length nr (d + 1)) (fwR ss.length nr (d + 1)) (wr.setCell ⟨R, i, none⟩ (.int .i64 ((v : Int) + 1)))) := by
              have q := hMi.out.set1 HR.out i ((v : Int) + 1)
              have e1 : fwF ss.length nr (d + 1) = updI (fwF ss.length nr d) i ((v : Int) + 1) := by
                rw [← fwFm_end]; unfold fwFm; rw [← HI.out, hx, hv]
              show KrM _ _ _ _ _ _ _ _ _ _
              rw [e1, ← fwRm_end]; exact q
            have hend : (i : Int) + 1 + ((d + 1 : Nat) : Int) = (ss.length : Int) := by have := HIN.out; omega
            rw [hend]
            clear hMi hx hv hxb hvb
            go_wp2_with fail
            go_roundw
            case rel => exact ⟨d + 1, by omega, by rw [← hi2]; go_num, HN.out⟩
            case measure => first | (simp [intOf]; done) | (simp [intOf]; omega)
      · obtain rfl : d = la := by omega
        have hneg : (d : Int) - 1 - (d : Int) = -1 := by omega
        rw [hneg]
        have HE : Hid (∀ k, k < d → fwR ss.length nr d k = ((fwN ss.length nr k : Nat) : Int)) := fun k hk => fwR_next HLA.out hk
        have HG : Hid (∀ k, k < ss.length → k < fwN ss.length nr k ∧ fwN ss.length nr k ≤ ss.length) := fun k hk => fwN_in ss.length nr k hk
        have HGL : Hid (∀ k, k < d → fwN ss.length nr k < ss.length) := fun k hk => by
          have h := HLA.out
          unfold fwN; rw [if_pos (by omega)]
          exact (fw_next ss.length nr (ss.length - 1) (by omega) k (by omega) (by omega)).2
        have HLAST : Hid (fwN ss.length nr d = ss.length) := fwN_last HLA.out
        obtain ⟨gg, hgg⟩ : ∃ gg, fwN ss.length nr = gg := ⟨_, rfl⟩
        rw [hgg] at HG HE HGL HLAST
        have HGQ := Lib.hid hgg
        have HROW := Lib.hid hM.out.r2
        have HBW := Lib.hid hM.out.g
        have HRB : Hid (T < wr.heap.size) := lt_of_block hM.out.r2
        clear hgg hM
        obtain ⟨i0, hi, hz0, hz1, hz2⟩ := info_parts info_int
        have HI := Lib.hid hi; have HZ0 := Lib.hid hz0; have HZ1 := Lib.hid hz1; have HZ2 := Lib.hid hz2
        clear hi hz0 hz1 hz2
        obtain ⟨we, hwe⟩ : ∃ we, we = wr := ⟨_, rfl⟩
        rw [← hwe] at HROW HBW HRB ⊢
        clear hwe
        go_wp2_with fail
        go_loopw [12, 13] (fun lv iv wl => ∃ (k x : Nat) (v : Value), v = lv ∧ Hid (pth gg 0 k = x) ∧ iv = .int .i64 (x : Nat) ∧ k ≤ x ∧ x ≤ d ∧ Hid (∀ j, j < k → pth gg 0 j < ss.length) ∧ Hid (wl.ownsRow we.heap.size 3 1 v k (pthVs gg 0 k)) ∧ Hid (we.grownBy wl none))
          (fun _ iv _ => ss.length - (intOf iv).toNat)
        case atStart => exact ⟨0, 0, _, rfl, rfl, rfl, Nat.zero_le _, Nat.zero_le _, fun j hj => absurd hj (Nat.not_lt_zero _), World.ownsRow_nil _ _ _ _, grown_refl _ _⟩
        case round =>
          obtain ⟨k, x, v, rfl, hx, rfl, hk, hxd, hall, hown, hg⟩ := hrel
          have hlt : x < ss.length := by have := HLA.out; omega
          have hgx := HG.out x hlt
          have hall2 : Hid (∀ j, j < k + 1 → pth gg 0 j < ss.length) := fun j hj => by
            rcases Nat.lt_or_ge j k with q | q
            · exact hall.out j q
            · obtain rfl : j = k := by omega
              rw [hx.out]; exact hlt
          have hx2 : Hid (pth gg 0 (k + 1) = gg x) := by show gg (pth gg 0 k) = gg x; rw [hx.out]
          have hvs : Hid (pthVs gg 0 (k + 1) = pthVs gg 0 k ++ [.int .i64 (x : Int)]) := by show _ = _; rw [pthVs_succ, hx.out]
          have cG := RowAt.cell (k := x) (HROW.out.grown hg.out) hlt
          have hlt2 := hown.out.lt
          have HCN : Hid (∀ j u, [Value.int .i64 (x : Int)][j]? = some u → (wr.alloc (.cells #[.int .i64 (x : Int)] 3)).cell? ((⟨wr.heap.size, 0, none⟩ : Addr).add j) = some u) := cell_one_new wr (.int .i64 (x : Int)) 3
          have hi := HI.out; have hz0 := HZ0.out; have hz1 := HZ1.out; have hz2 := HZ2.out
          have HSZ : Hid (we.heap.size ≤ wr.heap.size) := hg.out.size
          have HLR : Hid (T < wr.heap.size ∧ T < we.heap.size) := ⟨lt_of_block (HROW.out.grown hg.out), HRB.out⟩
          have x0 : (0 : Int) ≤ (x : Int) := by omega
          have xn : (x : Int) < (ss.length : Int) := by omega
          by_cases hxl : x < d
          · rw [HE.out x hxl] at cG
            have hgl := HGL.out x hxl
            obtain ⟨y, hy⟩ : ∃ y, gg x = y := ⟨_, rfl⟩
            rw [hy] at cG hgx hx2 hgl
            have hyd : y ≤ d := by have := HLA.out; omega
            have HCG : Hid (wr.cell? ⟨T, x, none⟩ = some (.int .i64 (y : Nat))) := cG
            have hne : ((x : Int) == (d : Int)) = false := by rw [beq_eq_false_iff_ne]; omega
            clear cG hall hx hy hgl
            go_wp2_with (at_builtin; refine wpList_append_own _ rfl _ _ 48 rfl we.heap.size 3 i0 (.int .i64 0) 1 8 Try.underlying48 hi hz0 hz1 hz2 rfl (by decide) _ _ _ rfl (hown.out.alloc _) ⟨wr.heap.size, 0, none⟩ 1 1 [.int .i64 (x : Int)] rfl rfl (HCN.out) (by intro u hu; simp at hu; subst hu; rfl) (by unfold maxLen; omega) (by omega) (by have := HSZ.out; simp at *; omega) ?_; intro v' w2 hown' hgrow' _; have cG2 : w2.cell? ⟨T, x, none⟩ = some (.int .i64 (y : Nat)) := (World.cell?_of_block (a := ⟨T, x, none⟩) (hgrow'.block T (by have := HLR.out; simp; omega) (fun e => by have := (hlt2 _ e.symm).1; have := HLR.out; omega))).trans (grown_cell (World.grownBy_alloc _ _ _) HCG.out))
            have HO2 : Hid (w2.ownsRow we.heap.size 3 1 v' (k + 1) (pthVs gg 0 (k + 1))) := by
              show World.ownsRow _ _ _ _ _ _ _; rw [hvs.out]; exact hown'
            have G2 : Hid (we.grownBy w2 none) := grown_own hg.out hgrow' (fun q e => (hlt2 q e).1)
            clear hown hown' hgrow' hlt2 hg
            go_wp2_with fail
            go_roundw
            case rel => exact ⟨k + 1, y, _, rfl, hx2.out, rfl, by omega, by omega, hall2.out, HO2.out, G2.out⟩
            case measure => simp [intOf]; omega
          · obtain rfl : x = d := by omega
            have HEND : Hid (PthEnd ss.length gg 0 (k + 1)) := ⟨hall2.out, by rw [hx2.out, HLAST.out]⟩
            have HCG : Hid (wr.cell? ⟨T, x, none⟩ = some (.int .i64 (fwR ss.length nr x x))) := cG
            obtain ⟨y, hy⟩ : ∃ y, fwR ss.length nr x x = y := ⟨_, rfl⟩
            rw [hy] at HCG
            have hne : ((x : Int) == (x : Int)) = true := by simp
            clear cG hall hx hy
            go_wp2_with (at_builtin; refine wpList_append_own _ rfl _ _ 48 rfl we.heap.size 3 i0 (.int .i64 0) 1 8 Try.underlying48 hi hz0 hz1 hz2 rfl (by decide) _ _ _ rfl (hown.out.alloc _) ⟨wr.heap.size, 0, none⟩ 1 1 [.int .i64 (x : Int)] rfl rfl (HCN.out) (by intro u hu; simp at hu; subst hu; rfl) (by unfold maxLen; omega) (by omega) (by have := HSZ.out; simp at *; omega) ?_; intro v' w2 hown' hgrow' _; have cG2 : w2.cell? ⟨T, x, none⟩ = some (.int .i64 y) := (World.cell?_of_block (a := ⟨T, x, none⟩) (hgrow'.block T (by have := HLR.out; simp; omega) (fun e => by have := (hlt2 _ e.symm).1; have := HLR.out; omega))).trans (grown_cell (World.grownBy_alloc _ _ _) HCG.out))
            have HO2 : Hid (w2.ownsRow we.heap.size 3 1 v' (k + 1) (pthVs gg 0 (k + 1))) := by
              show World.ownsRow _ _ _ _ _ _ _; rw [hvs.out]; exact hown'
            have G2 : Hid (we.grownBy w2 none) := grown_own hg.out hgrow' (fun q e => (hlt2 q e).1)
            clear hown hown' hgrow' hlt2 hg
            go_wp2_with fail
            go_ret2
            exact ⟨⟨_, k + 1, rfl, by rw [HGQ.out]; exact HEND.out, by rw [HGQ.out]; exact own_low2 HO2.out HBW.out.size⟩, grown_trans (grown_below HBW.out) G2.out⟩
end Go.Proofs.Ytgkhhfojioepgaa
namespace Go.Proofs.Ytgkhhfojioepgaa
open Go.RowKit
set_option linter.unusedSimpArgs false
set_option linter.unusedVariables false

theorem info_mark : (Try.prog.info? 4).map (fun i => (i.zero, i.size, i.bytes)) = some (some (.bool false), 1, 1) := by kernel_rfl
def kRow (n : Nat) (F : Nat → Bool) : Array Value := ((List.range n).map fun k => Value.bool (F k)).toArray
def updK (F : Nat → Bool) (i : Nat) (v : Bool) : Nat → Bool := fun k => if k = i then v else F k
theorem kRow_get (n : Nat) (F : Nat → Bool) (k : Nat) (h : k < n) : (kRow n F)[k]? = some (.bool (F k)) := by simp [kRow, h]
theorem kRow_set (n : Nat) (F : Nat → Bool) (k : Nat) (v : Bool) : (kRow n F).setIfInBounds k (.bool v) = kRow n (updK F k v) := by
  unfold kRow
  rw [List.setIfInBounds_toArray]
  congr 1
  apply List.ext_getElem
  · simp
  · intro i h1 h2
    rw [List.getElem_set]
    simp only [List.getElem_map, List.getElem_range, updK]
    by_cases e : k = i
    · rw [if_pos e, if_pos e.symm]
    · rw [if_neg e, if_neg (fun q => e q.symm)]
theorem kRow_congr {n : Nat} {F G : Nat → Bool} (h : ∀ k, k < n → F k = G k) : kRow n F = kRow n G := by
  unfold kRow
  congr 1
  exact List.map_congr_left fun k hk => by rw [h k (List.mem_range.1 hk)]
theorem kRow_zero (n : Nat) : madeCells #[Value.bool false] n = kRow n (fun _ => false) := by
  apply Array.ext
  · simp [madeCells, kRow]
  · intro i h1 h2
    simp [madeCells, kRow, Nat.mod_one]
/-- A row of marks in block g. -/
def MkAt (w : World) (g n : Nat) (F : Nat → Bool) : Prop := w.heap[g]? = some (.cells (kRow n F) 4 (0, 0))
section
variable {w : World} {g n : Nat} {F : Nat → Bool}
theorem MkAt.cell (h : MkAt w g n F) {k : Nat} (hk : k < n) : w.cell? ⟨g, k, none⟩ = some (.bool (F k)) := by
  have h' : w.heap[g]? = _ := h
  simp [World.cell?, h', kRow_get n F k hk]
theorem MkAt.free (h : MkAt w g n F) (k : Nat) : w.frozen? ⟨g, k, none⟩ = false := by
  have h' : w.heap[g]? = _ := h
  simp [World.frozen?, h']
theorem MkAt.set (h : MkAt w g n F) (k : Nat) (v : Bool) : MkAt (w.setCell ⟨g, k, none⟩ (.bool v)) g n (updK F k v) := by
  have h' : w.heap[g]? = _ := h
  show (w.setCell ⟨g, k, none⟩ (.bool v)).heap[g]? = _
  simp [World.setCell, Array.getElem?_modify, h', kRow_set]
theorem MkAt.congr (h : MkAt w g n F) {G : Nat → Bool} (e : ∀ k, k < n → F k = G k) : MkAt w g n G := by
  show w.heap[g]? = _
  rw [← kRow_congr e]; exact h
theorem MkAt.grown (h : MkAt w g n F) {w' : World} (hg : w.grownBy w' none) : MkAt w' g n F := by
  have h' : w.heap[g]? = _ := h
  show w'.heap[g]? = _
  rw [hg.block g (lt_of_block h') (by simp)]; exact h
theorem MkAt.lt (h : MkAt w g n F) : g < w.heap.size := lt_of_block h
end
end Go.Proofs.Ytgkhhfojioepgaa
namespace Go.Proofs.Ytgkhhfojioepgaa
open Go.RowKit
set_option linter.unusedSimpArgs false
set_option linter.unusedVariables false

attribute [local go_sem] Oper.semAt_some

/-- The first sample of the greatest miss among the first m behind i, and this miss; (0, 0) if none is missed. -/
noncomputable def wstV (ss : List Smp) (i j : Nat) : Nat → Nat × Int
  | 0 => (0, 0)
  | m + 1 => if (wstV ss i j m).2 < missV (smpD ss i) (smpD ss j) (smpD ss (i + 1 + m)) then (i + 1 + m, missV (smpD ss i) (smpD ss j) (smpD ss (i + 1 + m))) else wstV ss i j m
theorem wst_bd {ss : List Smp} (HS : SOk ss) {i j : Nat} (hj : j < ss.length) : ∀ m, i + 1 + m ≤ j ∨ m = 0 → 0 ≤ (wstV ss i j m).2 ∧ (wstV ss i j m).2 ≤ 80000000000000000 ∧ (wstV ss i j m).1 ≤ j ∧ (0 < (wstV ss i j m).2 → i < (wstV ss i j m).1 ∧ (wstV ss i j m).1 < i + 1 + m ∧ (wstV ss i j m).2 = missV (smpD ss i) (smpD ss j) (smpD ss (wstV ss i j m).1)) ∧ (∀ n, i < n → n < i + 1 + m → missV (smpD ss i) (smpD ss j) (smpD ss n) ≤ (wstV ss i j m).2) ∧ (0 < (wstV ss i j m).2 → ∀ n, i < n → n < (wstV ss i j m).1 → missV (smpD ss i) (smpD ss j) (smpD ss n) < (wstV ss i j m).2)
  | 0, _ => by unfold wstV; exact ⟨by simp, by simp, by simp, fun h => absurd h (by simp), fun n a b => absurd b (by omega), fun h => absurd h (by simp)⟩
  | m + 1, h => by
    have hm : i + 1 + (m + 1) ≤ j := by omega
    obtain ⟨q1, q2, q3, q4, q5, q6⟩ := wst_bd HS (i := i) hj m (Or.inl (by omega))
    have b := miss_bd (smpIn_of HS (show i < ss.length by omega)) (smpIn_of HS hj) (smpIn_of HS (show i + 1 + m < ss.length by omega)) (times_le HS (show i ≤ i + 1 + m by omega) (by omega)) (times_le HS (show i + 1 + m ≤ j by omega) hj) (times_lt HS (show i < j by omega) hj)
    unfold wstV
    split
    · rename_i hlt
      refine ⟨b.1, b.2, by simp only; omega, fun _ => ⟨by simp only; omega, by simp only; omega, rfl⟩, fun n a c => ?_, fun _ n a c => ?_⟩
      · simp only
        rcases Nat.lt_or_ge n (i + 1 + m) with e | e
        · have := q5 n a e; omega
        · obtain rfl : n = i + 1 + m := by omega
          omega
      · simp only at c ⊢
        have := q5 n a c; omega
    · rename_i hlt
      refine ⟨q1, q2, q3, fun h => ?_, fun n a c => ?_, q6⟩
      · obtain ⟨x, y, z⟩ := q4 h
        exact ⟨x, by omega, z⟩
      · rcases Nat.lt_or_ge n (i + 1 + m) with e | e
        · exact q5 n a e
        · obtain rfl : n = i + 1 + m := by omega
          omega

set_option maxRecDepth 100000 in
set_option maxHeartbeats 1600000 in
theorem worst_is (b off cap : Nat) (ss : List Smp) (HS : Hid (SOk ss)) (i j : Nat) (hij : i ≤ j) (hj : j < ss.length) (w : World) (hs : SmpsAt w (some ⟨b, off, none⟩) ss) {A : Nat} {B : Int} (hr : Hid (wstV ss i j (j - 1 - i) = (A, B))) :
    Calls Try.prog 100 #[.slice (some ⟨b, off, none⟩) ss.length cap, .int .i64 (i : Nat), .int .i64 (j : Nat)] w fun e w' => e = .returned (.tuple #[.int .i64 (A : Nat), .int .i64 B]) ∧ w.grownBy w' none := by
  have hl : (ss.length : Int) ≤ 20000 := HS.out.len
  have HA := Lib.hid hs
  have hi : i < ss.length := by omega
  have i1 : (i : Int) < (ss.length : Int) := by omega
  have j1 : (j : Int) < (ss.length : Int) := by omega
  have i2 : (0 : Int) ≤ (i : Int) := by omega
  have j2 : (0 : Int) ≤ (j : Int) := by omega
  clear hs
  go_enter Try.func100, Try.ntmps100
  go_wp2_with fail
  go_loopw [6, 7, 8] (fun av bv iv wr => ∃ (m : Nat) (a : Nat) (f : Int), av = .int .i64 (a : Nat) ∧ bv = .int .i64 f ∧ iv = .int .i64 ((i : Int) + 1 + m) ∧ Hid (i + 1 + m ≤ j ∨ m = 0) ∧ Hid (wstV ss i j m = (a, f)) ∧ Hid (w.grownBy wr none))
    (fun _ _ iv _ => j - (intOf iv).toNat)
  case atStart => exact ⟨0, 0, 0, by go_num, by go_num, by go_num, Or.inr rfl, rfl, grown_refl _ _⟩
  case round =>
    obtain ⟨m, a, f, rfl, rfl, rfl, hmj, hW, hG⟩ := hrel
    have hb := wst_bd HS.out hj m hmj.out
    rw [hW.out] at hb
    obtain ⟨f0, f1, a1, -, -, -⟩ := hb
    simp only at f0 f1 a1
    by_cases hlt : i + 1 + m < j
    · obtain ⟨k, hk0⟩ : ∃ k, i + 1 + m = k := ⟨_, rfl⟩
      have hkI : (i : Int) + 1 + (m : Int) = (k : Int) := by omega
      have hk : k < ss.length := by omega
      have k1 : (k : Int) < (ss.length : Int) := by omega
      have k2 : (0 : Int) ≤ (k : Int) := by omega
      have hik : i < k := by omega
      obtain ⟨v, hv⟩ : ∃ v, missV (smpD ss i) (smpD ss j) (smpD ss k) = v := ⟨_, rfl⟩
      have HMV := Lib.hid hv
      have SR := Lib.hid (HA.out.grown hG.out)
      have HK := Lib.hid hk0
      have hkj : k < j := by omega
      have HLT := Lib.hid hkj
      have hij2 : i < j := by omega
      have hvb := miss_bd (smpIn_of HS.out hi) (smpIn_of HS.out hj) (smpIn_of HS.out hk) (times_le HS.out (Nat.le_of_lt hik) hk) (times_le HS.out (Nat.le_of_lt hkj) hj) (times_lt HS.out hij2 hj)
      rw [hv] at hvb
      have HW2 : Hid (wstV ss i j (m + 1) = if f < v then (k, v) else (a, f)) := by
        show _ = _; rw [wstV, hk0, hv, hW.out]
      have KM : Hid (∀ V : World, Calls Try.prog 145 #[.agg #[.int .i64 (smpD ss i).t, .int .i64 (smpD ss i).x, .int .i64 (smpD ss i).y, .int .i64 (smpD ss i).z, .int .i64 (smpD ss i).p, .int .i64 (smpD ss i).q, .int .i64 (smpD ss i).s], .agg #[.int .i64 (smpD ss j).t, .int .i64 (smpD ss j).x, .int .i64 (smpD ss j).y, .int .i64 (smpD ss j).z, .int .i64 (smpD ss j).p, .int .i64 (smpD ss j).q, .int .i64 (smpD ss j).s], .agg #[.int .i64 (smpD ss k).t, .int .i64 (smpD ss k).x, .int .i64 (smpD ss k).y, .int .i64 (smpD ss k).z, .int .i64 (smpD ss k).p, .int .i64 (smpD ss k).q, .int .i64 (smpD ss k).s]] V fun e w' => e = .returned (.int .i64 v) ∧ V.grownBy w' none) := fun V => miss_is (smpD ss i) (smpD ss j) (smpD ss k) (smpIn_of HS.out hi) (smpIn_of HS.out hj) (smpIn_of HS.out hk) (times_le HS.out (Nat.le_of_lt hik) hk) (times_le HS.out (Nat.le_of_lt hkj) hj) (times_lt HS.out hij2 hj) V HMV
      rw [hkI]
      clear hv hW hk0 hlt
      go_wp2_with fail
      have SD : Hid (SmpsAt wr.drew (some ⟨b, off, none⟩) ss) := SR.out.grown (grown_drewN wr none 1)
      have GD : Hid (w.grownBy wr.drew none) := grown_trans hG.out (grown_drewN wr none 1)
      refine region_late (lateK (fun V => SmpsAt V (some ⟨b, off, none⟩) ss) []) (by kernel_rfl) SD.out (fun hC0 hS0 => ?_)
      clear hG SR
      generalize wr.drew = V1 at *
      refine wpAnyS_take (i := 0) (oi := ?oi1) (v := .slice (some ⟨b, off, none⟩) ss.length cap) ?hi1 (by kernel_rfl) (by kernel_rfl) (by kernel_rfl) (lateK_iff (by rfl)) ?hq1 ?hy1 hC0 hS0 ?rest1
      case hi1 => simp only [List.getElem?_toArray, List.getElem?_cons_succ, List.getElem?_cons_zero, Option.some.injEq]; rfl
      case hq1 => exact fun _ _ _ h => h
      case hy1 =>
        refine Or.inl ⟨by kernel_rfl, fun V hV => ?_⟩
        clear hV
        go_simp
      intro hC1 hS1
      clear hC0 hS0
      try simp only [Go.Act.put, List.setIfInBounds_toArray, List.set_cons_zero, List.set_cons_succ]
      refine wpAnyS_take (i := 1) (oi := ?oi2) (v := .int .i64 (i : Nat)) ?hi2 (by kernel_rfl) (by kernel_rfl) (by kernel_rfl) (lateK_iff (by rfl)) ?hq2 ?hy2 hC1 hS1 ?rest2
      case hi2 => simp only [List.getElem?_toArray, List.getElem?_cons_succ, List.getElem?_cons_zero, Option.some.injEq]; rfl
      case hq2 => exact fun _ _ _ h => h
      case hy2 =>
        refine Or.inl ⟨by kernel_rfl, fun V hV => ?_⟩
        clear hV
        go_simp
      intro hC2 hS2
      clear hC1 hS1
      try simp only [Go.Act.put, List.setIfInBounds_toArray, List.set_cons_zero, List.set_cons_succ]
      refine wpAnyS_take (i := 2) (oi := ?oi3) (v := .pointer (some ⟨b, off + i * 7, none⟩)) ?hi3 (by kernel_rfl) (by kernel_rfl) (by kernel_rfl) (lateK_iff (by rfl)) ?hq3 ?hy3 hC2 hS2 ?rest3
      case hi3 => simp only [List.getElem?_toArray, List.getElem?_cons_succ, List.getElem?_cons_zero, Option.some.injEq]; rfl
      case hq3 => exact fun _ _ _ h => h
      case hy3 =>
        refine Or.inl ⟨by kernel_rfl, fun V hV => ?_⟩
        clear hV
        go_simp
      intro hC3 hS3
      clear hC2 hS2
      try simp only [Go.Act.put, List.setIfInBounds_toArray, List.set_cons_zero, List.set_cons_succ]
      refine wpAnyS_take (i := 3) (oi := ?oi4) (v := .agg #[.int .i64 (smpD ss i).t, .int .i64 (smpD ss i).x, .int .i64 (smpD ss i).y, .int .i64 (smpD ss i).z, .int .i64 (smpD ss i).p, .int .i64 (smpD ss i).q, .int .i64 (smpD ss i).s]) ?hi4 (by kernel_rfl) (by kernel_rfl) (by kernel_rfl) (lateK_iff (by rfl)) ?hq4 ?hy4 hC3 hS3 ?rest4
      case hi4 => simp only [List.getElem?_toArray, List.getElem?_cons_succ, List.getElem?_cons_zero, Option.some.injEq]; rfl
      case hq4 => exact fun _ _ _ h => h
      case hy4 =>
        refine Or.inl ⟨by kernel_rfl, fun V hV => ?_⟩
        obtain ⟨p0, p1, p2, p3, p4, p5, p6⟩ := (lateK_g hV).cells _ rfl i hi; rw [← smpD_at hi] at p0 p1 p2 p3 p4 p5 p6; simp only at p0 p1 p2 p3 p4 p5 p6; clear hV
        go_simp
      intro hC4 hS4
      clear hC3 hS3
      try simp only [Go.Act.put, List.setIfInBounds_toArray, List.set_cons_zero, List.set_cons_succ]
      refine wpAnyS_take (i := 4) (oi := ?oi5) (v := .slice (some ⟨b, off, none⟩) ss.length cap) ?hi5 (by kernel_rfl) (by kernel_rfl) (by kernel_rfl) (lateK_iff (by rfl)) ?hq5 ?hy5 hC4 hS4 ?rest5
      case hi5 => simp only [List.getElem?_toArray, List.getElem?_cons_succ, List.getElem?_cons_zero, Option.some.injEq]; rfl
      case hq5 => exact fun _ _ _ h => h
      case hy5 =>
        refine Or.inl ⟨by kernel_rfl, fun V hV => ?_⟩
        clear hV
        go_simp
      intro hC5 hS5
      clear hC4 hS4
      try simp only [Go.Act.put, List.setIfInBounds_toArray, List.set_cons_zero, List.set_cons_succ]
      refine wpAnyS_take (i := 5) (oi := ?oi6) (v := .int .i64 (j : Nat)) ?hi6 (by kernel_rfl) (by kernel_rfl) (by kernel_rfl) (lateK_iff (by rfl)) ?hq6 ?hy6 hC5 hS5 ?rest6
      case hi6 => simp only [List.getElem?_toArray, List.getElem?_cons_succ, List.getElem?_cons_zero, Option.some.injEq]; rfl
      case hq6 => exact fun _ _ _ h => h
      case hy6 =>
        refine Or.inl ⟨by kernel_rfl, fun V hV => ?_⟩
        clear hV
        go_simp
      intro hC6 hS6
      clear hC5 hS5
      try simp only [Go.Act.put, List.setIfInBounds_toArray, List.set_cons_zero, List.set_cons_succ]
      refine wpAnyS_take (i := 6) (oi := ?oi7) (v := .pointer (some ⟨b, off + j * 7, none⟩)) ?hi7 (by kernel_rfl) (by kernel_rfl) (by kernel_rfl) (lateK_iff (by rfl)) ?hq7 ?hy7 hC6 hS6 ?rest7
      case hi7 => simp only [List.getElem?_toArray, List.getElem?_cons_succ, List.getElem?_cons_zero, Option.some.injEq]; rfl
      case hq7 => exact fun _ _ _ h => h
      case hy7 =>
        refine Or.inl ⟨by kernel_rfl, fun V hV => ?_⟩
        clear hV
        go_simp
      intro hC7 hS7
      clear hC6 hS6
      try simp only [Go.Act.put, List.setIfInBounds_toArray, List.set_cons_zero, List.set_cons_succ]
      refine wpAnyS_take (i := 7) (oi := ?oi8) (v := .agg #[.int .i64 (smpD ss j).t, .int .i64 (smpD ss j).x, .int .i64 (smpD ss j).y, .int .i64 (smpD ss j).z, .int .i64 (smpD ss j).p, .int .i64 (smpD ss j).q, .int .i64 (smpD ss j).s]) ?hi8 (by kernel_rfl) (by kernel_rfl) (by kernel_rfl) (lateK_iff (by rfl)) ?hq8 ?hy8 hC7 hS7 ?rest8
      case hi8 => simp only [List.getElem?_toArray, List.getElem?_cons_succ, List.getElem?_cons_zero, Option.some.injEq]; rfl
      case hq8 => exact fun _ _ _ h => h
      case hy8 =>
        refine Or.inl ⟨by kernel_rfl, fun V hV => ?_⟩
        obtain ⟨q0, q1, q2, q3, q4, q5, q6⟩ := (lateK_g hV).cells _ rfl j hj; rw [← smpD_at hj] at q0 q1 q2 q3 q4 q5 q6; simp only at q0 q1 q2 q3 q4 q5 q6; clear hV
        go_simp
      intro hC8 hS8
      clear hC7 hS7
      try simp only [Go.Act.put, List.setIfInBounds_toArray, List.set_cons_zero, List.set_cons_succ]
      refine wpAnyS_take (i := 8) (oi := ?oi9) (v := .slice (some ⟨b, off, none⟩) ss.length cap) ?hi9 (by kernel_rfl) (by kernel_rfl) (by kernel_rfl) (lateK_iff (by rfl)) ?hq9 ?hy9 hC8 hS8 ?rest9
      case hi9 => simp only [List.getElem?_toArray, List.getElem?_cons_succ, List.getElem?_cons_zero, Option.some.injEq]; rfl
      case hq9 => exact fun _ _ _ h => h
      case hy9 =>
        refine Or.inl ⟨by kernel_rfl, fun V hV => ?_⟩
        clear hV
        go_simp
      intro hC9 hS9
      clear hC8 hS8
      try simp only [Go.Act.put, List.setIfInBounds_toArray, List.set_cons_zero, List.set_cons_succ]
      refine wpAnyS_take (i := 9) (oi := ?oi10) (v := .int .i64 (k : Nat)) ?hi10 (by kernel_rfl) (by kernel_rfl) (by kernel_rfl) (lateK_iff (by rfl)) ?hq10 ?hy10 hC9 hS9 ?rest10
      case hi10 => simp only [List.getElem?_toArray, List.getElem?_cons_succ, List.getElem?_cons_zero, Option.some.injEq]; rfl
      case hq10 => exact fun _ _ _ h => h
      case hy10 =>
        refine Or.inl ⟨by kernel_rfl, fun V hV => ?_⟩
        clear hV
        go_simp
      intro hC10 hS10
      clear hC9 hS9
      try simp only [Go.Act.put, List.setIfInBounds_toArray, List.set_cons_zero, List.set_cons_succ]
      refine wpAnyS_take (i := 10) (oi := ?oi11) (v := .pointer (some ⟨b, off + k * 7, none⟩)) ?hi11 (by kernel_rfl) (by kernel_rfl) (by kernel_rfl) (lateK_iff (by rfl)) ?hq11 ?hy11 hC10 hS10 ?rest11
      case hi11 => simp only [List.getElem?_toArray, List.getElem?_cons_succ, List.getElem?_cons_zero, Option.some.injEq]; rfl
      case hq11 => exact fun _ _ _ h => h
      case hy11 =>
        refine Or.inl ⟨by kernel_rfl, fun V hV => ?_⟩
        clear hV
        go_simp
      intro hC11 hS11
      clear hC10 hS10
      try simp only [Go.Act.put, List.setIfInBounds_toArray, List.set_cons_zero, List.set_cons_succ]
      refine wpAnyS_take (i := 11) (oi := ?oi12) (v := .agg #[.int .i64 (smpD ss k).t, .int .i64 (smpD ss k).x, .int .i64 (smpD ss k).y, .int .i64 (smpD ss k).z, .int .i64 (smpD ss k).p, .int .i64 (smpD ss k).q, .int .i64 (smpD ss k).s]) ?hi12 (by kernel_rfl) (by kernel_rfl) (by kernel_rfl) (lateK_iff (by rfl)) ?hq12 ?hy12 hC11 hS11 ?rest12
      case hi12 => simp only [List.getElem?_toArray, List.getElem?_cons_succ, List.getElem?_cons_zero, Option.some.injEq]; rfl
      case hq12 => exact fun _ _ _ h => h
      case hy12 =>
        refine Or.inl ⟨by kernel_rfl, fun V hV => ?_⟩
        obtain ⟨x0, x1, x2, x3, x4, x5, x6⟩ := (lateK_g hV).cells _ rfl k hk; rw [← smpD_at hk] at x0 x1 x2 x3 x4 x5 x6; simp only at x0 x1 x2 x3 x4 x5 x6; clear hV
        go_simp
      intro hC12 hS12
      clear hC11 hS11
      try simp only [Go.Act.put, List.setIfInBounds_toArray, List.set_cons_zero, List.set_cons_succ]
      refine wpAnyS_ready (rs := [12]) (by kernel_rfl) (by simp) ?_
      refine AllReadyS.cons rfl hC12 (fun K hK => ?_) AllReadyS.nil
      go_simp
      refine (KM.out _).mono ?_
      rintro e w5 ⟨rfl, hg5⟩
      have S5 := Lib.hid (SD.out.grown hg5)
      have G5 := Lib.hid (grown_trans GD.out hg5)
      refine hK.out _ _ S5.out (fun hC13 hS13 => ?_)
      clear hK hC12 hS12 K
      clear hg5 SD GD
      try simp only [Go.Act.put, List.setIfInBounds_toArray, List.set_cons_zero, List.set_cons_succ]
      refine wpAnyS_take (i := 13) (oi := ?oi14) (v := .int .i64 v) ?hi14 (by kernel_rfl) (by kernel_rfl) (by kernel_rfl) (lateK_iff (by rfl)) ?hq14 ?hy14 hC13 hS13 ?rest14
      case hi14 => simp only [List.getElem?_toArray, List.getElem?_cons_succ, List.getElem?_cons_zero, Option.some.injEq]; rfl
      case hq14 => exact fun _ _ _ h => h
      case hy14 =>
        refine Or.inl ⟨by kernel_rfl, fun V hV => ?_⟩
        clear hV
        go_simp
      intro hC14 hS14
      clear hC13 hS13
      try simp only [Go.Act.put, List.setIfInBounds_toArray, List.set_cons_zero, List.set_cons_succ]
      refine wpAnyS_done (by kernel_rfl) ?_ _
      clear hC14 hS14
      clear S5
      by_cases hfv : f < v
      · have HW3 : Hid (wstV ss i j (m + 1) = (k, v)) := by show _ = _; rw [HW2.out, if_pos hfv]
        have gd : decide (f < v) = true := by simp; omega
        clear HW2
        go_wp2_with fail
        go_roundw
        case rel => exact ⟨m + 1, k, v, by go_num, by go_num, by go_num, by have := HLT.out; have := HK.out; show _ ∨ _; omega, HW3, G5⟩
        case measure => have := HLT.out; simp [intOf]; omega
      · have HW3 : Hid (wstV ss i j (m + 1) = (a, f)) := by show _ = _; rw [HW2.out, if_neg hfv]
        have gd : decide (f < v) = false := by simp; omega
        clear HW2
        go_wp2_with fail
        go_roundw
        case rel => exact ⟨m + 1, a, f, by go_num, by go_num, by go_num, by have := HLT.out; have := HK.out; show _ ∨ _; omega, HW3, G5⟩
        case measure => have := HLT.out; simp [intOf]; omega
    · have hmE : m = j - 1 - i := by have := hmj.out; omega
      have hE : (a, f) = (A, B) := by rw [← hW.out, hmE]; exact hr.out
      injection hE with e1 e2
      subst e1 e2
      clear hW hmE
      go_wp2_with fail
      go_ret2
      exact ⟨rfl, hG.out⟩

end Go.Proofs.Ytgkhhfojioepgaa
namespace Go.Proofs.Ytgkhhfojioepgaa
open Go.RowKit
set_option linter.unusedSimpArgs false
set_option linter.unusedVariables false

/-- The samples that are kept between two, in order (f: fuel). -/
noncomputable def ksV (ss : List Smp) (M : Int) : Nat → Nat → Nat → List Nat
  | 0, _, _ => []
  | f + 1, i, j => if M < (wstV ss i j (j - 1 - i)).2 then ksV ss M f i (wstV ss i j (j - 1 - i)).1 ++ (wstV ss i j (j - 1 - i)).1 :: ksV ss M f (wstV ss i j (j - 1 - i)).1 j else []
theorem wst_in {ss : List Smp} (HS : SOk ss) {M : Int} (hM : 0 ≤ M) {i j : Nat} (hij : i ≤ j) (hj : j < ss.length) (h : M < (wstV ss i j (j - 1 - i)).2) : i < (wstV ss i j (j - 1 - i)).1 ∧ (wstV ss i j (j - 1 - i)).1 < j := by
  have hlt : i < j := by
    rcases Nat.lt_or_ge i j with q | q
    · exact q
    · exfalso
      rw [show j - 1 - i = 0 by omega] at h
      unfold wstV at h; simp at h; omega
  have q := (wst_bd HS (i := i) hj (j - 1 - i) (by omega)).2.2.2.1 (by omega)
  omega
theorem ks_fuel {ss : List Smp} (HS : SOk ss) {M : Int} (hM : 0 ≤ M) : ∀ f g i j, i ≤ j → j < ss.length → j - i ≤ f → j - i ≤ g → ksV ss M f i j = ksV ss M g i j
  | 0, 0, _, _, _, _, _, _ => rfl
  | 0, g + 1, i, j, hij, hj, hf, _ => by
    unfold ksV
    rw [if_neg]
    intro h
    have := wst_in HS hM hij hj h; omega
  | f + 1, 0, i, j, hij, hj, _, hg => by
    unfold ksV
    rw [if_neg]
    intro h
    have := wst_in HS hM hij hj h; omega
  | f + 1, g + 1, i, j, hij, hj, hf, hg => by
    unfold ksV
    split
    · rename_i h
      have q := wst_in HS hM hij hj h
      rw [ks_fuel HS hM f g i _ (by omega) (by omega) (by omega) (by omega), ks_fuel HS hM f g _ j (by omega) (by omega) (by omega) (by omega)]
    · rfl
/-- The same without fuel. -/
noncomputable def ksC (ss : List Smp) (M : Int) (i j : Nat) : List Nat := ksV ss M (j - i) i j
theorem ksC_eq {ss : List Smp} (HS : SOk ss) {M : Int} (hM : 0 ≤ M) {i j : Nat} (hij : i ≤ j) (hj : j < ss.length) {A : Nat} {B : Int} (h : wstV ss i j (j - 1 - i) = (A, B)) : ksC ss M i j = if M < B then ksC ss M i A ++ A :: ksC ss M A j else [] := by
  by_cases hlt : M < B
  · have q := wst_in HS hM hij hj (by rw [h]; exact hlt)
    rw [h] at q
    simp only at q
    rw [if_pos hlt]
    unfold ksC
    obtain ⟨f, hf⟩ : ∃ f, j - i = f + 1 := ⟨j - i - 1, by omega⟩
    rw [hf]
    conv => lhs; unfold ksV
    rw [h]
    simp only
    rw [if_pos hlt, ks_fuel HS hM f (A - i) i A (by omega) (by omega) (by omega) (by omega), ks_fuel HS hM f (j - A) A j (by omega) (by omega) (by omega) (by omega)]
  · rw [if_neg hlt]
    unfold ksC
    cases hf : j - i with
    | zero => rfl
    | succ f => unfold ksV; rw [h]; simp only; rw [if_neg hlt]
theorem ks_in {ss : List Smp} (HS : SOk ss) {M : Int} (hM : 0 ≤ M) : ∀ f i j, i ≤ j → j < ss.length → (∀ k ∈ ksV ss M f i j, i < k ∧ k < j) ∧ (ksV ss M f i j).Pairwise (· < ·)
  | 0, _, _, _, _ => ⟨fun k h => absurd h (by unfold ksV; simp), by unfold ksV; exact List.Pairwise.nil⟩
  | f + 1, i, j, hij, hj => by
    unfold ksV
    split
    · rename_i h
      have q := wst_in HS hM hij hj h
      obtain ⟨a1, a2⟩ := ks_in HS hM f i (wstV ss i j (j - 1 - i)).1 (by omega) (by omega)
      obtain ⟨b1, b2⟩ := ks_in HS hM f (wstV ss i j (j - 1 - i)).1 j (by omega) hj
      refine ⟨fun k hk => ?_, ?_⟩
      · rcases List.mem_append.mp hk with c | c
        · have := a1 k c; omega
        · rcases List.mem_cons.mp c with c | c
          · omega
          · have := b1 k c; omega
      · rw [List.pairwise_append]
        refine ⟨a2, List.pairwise_cons.mpr ⟨fun k hk => (b1 k hk).1, b2⟩, fun x hx y hy => ?_⟩
        have hx2 := a1 x hx
        rcases List.mem_cons.mp hy with c | c
        · omega
        · have := b1 y c; omega
    · exact ⟨fun k h => absurd h (by simp), List.Pairwise.nil⟩
/-- The list of Simple. -/
noncomputable def simL (ss : List Smp) (M : Int) : List Nat := if ss.length = 0 then [] else if ss.length = 1 then [0] else 0 :: (ksC ss M 0 (ss.length - 1) ++ [ss.length - 1])
theorem sorted_one : ∀ (l m : List Nat), l.Pairwise (· < ·) → m.Pairwise (· < ·) → (∀ x, x ∈ l ↔ x ∈ m) → l = m
  | [], [], _, _, _ => rfl
  | [], b :: m, _, _, h => by have := (h b).mpr (by simp); simp at this
  | a :: l, [], _, _, h => by have := (h a).mp (by simp); simp at this
  | a :: l, b :: m, hl, hm, h => by
    obtain ⟨l1, l2⟩ := List.pairwise_cons.mp hl
    obtain ⟨m1, m2⟩ := List.pairwise_cons.mp hm
    have hab : a = b := by
      rcases List.mem_cons.mp ((h a).mp (by simp)) with c | c
      · exact c
      · rcases List.mem_cons.mp ((h b).mpr (by simp)) with d | d
        · exact d.symm
        · have := m1 a c; have := l1 b d; omega
    subst hab
    rw [sorted_one l m l2 m2 (fun x => ?_)]
    constructor
    · intro hx
      rcases List.mem_cons.mp ((h x).mp (List.mem_cons_of_mem _ hx)) with c | c
      · have := l1 x hx; omega
      · exact c
    · intro hx
      rcases List.mem_cons.mp ((h x).mpr (List.mem_cons_of_mem _ hx)) with c | c
      · have := m1 x hx; omega
      · exact c
/-- Is a sample kept? -/
noncomputable def kepB (ss : List Smp) (M : Int) (k : Nat) : Bool := decide (k = 0) || decide (k = ss.length - 1) || decide (k ∈ ksC ss M 0 (ss.length - 1))
theorem simL_filter {ss : List Smp} (HS : SOk ss) {M : Int} (hM : 0 ≤ M) : (List.range ss.length).filter (kepB ss M) = simL ss M := by
  by_cases h0 : ss.length = 0
  · unfold simL; rw [if_pos h0, h0]; rfl
  · obtain ⟨a1, a2⟩ := ks_in HS hM (ss.length - 1 - 0) 0 (ss.length - 1) (by omega) (by omega)
    apply sorted_one
    · exact List.Pairwise.filter _ List.pairwise_lt_range
    · unfold simL
      rw [if_neg h0]
      split
      · simp
      · rw [List.pairwise_cons]
        refine ⟨fun x hx => ?_, ?_⟩
        · rcases List.mem_append.mp hx with c | c
          · exact (a1 x c).1
          · rw [List.mem_singleton] at c; omega
        · rw [List.pairwise_append]
          refine ⟨a2, by simp, fun x hx y hy => ?_⟩
          rw [List.mem_singleton] at hy
          have := a1 x hx; omega
    · intro x
      rw [List.mem_filter, List.mem_range]
      unfold kepB simL
      rw [if_neg h0]
      simp only [Bool.or_eq_true, decide_eq_true_iff]
      have hk : x ∈ ksC ss M 0 (ss.length - 1) → 0 < x ∧ x < ss.length - 1 := fun h => a1 x h
      split
      · rename_i h1
        rw [List.mem_singleton]
        constructor
        · intro h; omega
        · intro h; subst h; exact ⟨by omega, Or.inl (Or.inl rfl)⟩
      · rw [List.mem_cons, List.mem_append, List.mem_singleton]
        constructor
        · rintro ⟨_, (h | h) | h⟩
          · exact Or.inl h
          · exact Or.inr (Or.inr h)
          · exact Or.inr (Or.inl h)
        · rintro (h | h | h)
          · exact ⟨by omega, Or.inl (Or.inl h)⟩
          · exact ⟨by have := hk h; omega, Or.inr h⟩
          · exact ⟨by omega, Or.inl (Or.inr h)⟩
end Go.Proofs.Ytgkhhfojioepgaa
