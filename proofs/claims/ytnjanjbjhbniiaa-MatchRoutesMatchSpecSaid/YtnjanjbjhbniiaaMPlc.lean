/- The contracts of between and placeAfter. -/
import Derived.Test.YtnjanjbjhbniiaaMSpcP
import Derived.Test.YtnjanjbjhbniiaaQScale
import Derived.Test.YtnjanjbjhbniiaaShelf
import Derived.BigQuiet
import Derived.Deep.CutBlock
import Derived.Deep.DeepCutAuto
namespace Go.Proofs.Ytnjanjbjhbniiaa
open Go.RowKit
set_option linter.unusedSimpArgs false
set_option linter.unusedVariables false

attribute [local go_sem] Oper.semAt_some

theorem mbetween_is (p q part whole : Int) (hp : -100000000 ≤ p ∧ p ≤ 100000000) (hq : -100000000 ≤ q ∧ q ≤ 100000000) (h0 : 0 ≤ part) (h1 : part ≤ whole) (hd : 1 ≤ whole) (hw : whole ≤ 1000000000) (w : World) {n : Int} (h : Hid (mbtw p q part whole = n)) :
    Calls Try.prog 89 #[.int .i64 p, .int .i64 q, .int .i64 part, .int .i64 whole] w fun e w' => e = .returned (.int .i64 n) ∧ w.grownBy w' none := by
  obtain ⟨b0, b1⟩ := scale_nearM (a := q - p) (num := part) (den := whole) (by omega) (by omega) h0 h1 hd
  have hv := h.out
  unfold mbtw at hv
  obtain ⟨s, hs⟩ : ∃ s, (scaleV (q - p) part whole 4).1 = s := ⟨_, rfl⟩
  obtain ⟨se, hse⟩ : ∃ s, (scaleV (q - p) part whole 4).2 = s := ⟨_, rfl⟩
  rw [hs] at b0 b1 hv
  have HS := Lib.hid hs; have HE := Lib.hid hse
  obtain ⟨a, ha⟩ : ∃ d, q - p = d := ⟨_, rfl⟩
  have rs : IntKind.i64.wrap (q - p) = a := by rw [ha]; exact IntWalk.i64_in _ (by omega)
  have rn : IntKind.i64.wrap (p + s) = n := by rw [hv]; exact IntWalk.i64_in _ (by omega)
  have AB : Hid (-200000000 ≤ a ∧ a ≤ 200000000) := by show _ ∧ _; omega
  have PW : Hid (0 ≤ part ∧ part ≤ whole ∧ whole ≤ 1000000000) := ⟨h0, h1, hw⟩
  rw [ha] at HS HE
  clear hs hse hv ha hp hq h0 h1 hd hw b0 b1 h
  go_enter Try.func89, Try.ntmps89
  go_wp2_with fail
  refine (scale_any a part whole 4 (by have := AB.out; omega) (by have := AB.out; omega) (by have := PW.out; omega) (by have := PW.out; omega) (by have := PW.out; omega) (by have := PW.out; omega) _).mono ?_; rintro e w1 ⟨rfl, hg1⟩
  rw [HS.out, HE.out]
  go_wp2_with fail
  go_ret
  exact ⟨rfl, hg1⟩

theorem ints_search {W : World} {g n cap : Nat} {Fn : Nat → Int} (h : IntsC W (some ⟨g, 0, none⟩) n Fn) (hm : ∀ i j, i ≤ j → Fn i ≤ Fn j) (hn : n ≤ 20000) (d : Int) :
    Calls Try.prog 88 #[.slice (some ⟨g, 0, none⟩) n cap, .int .i64 d] W fun e w' => e = .returned (.tuple #[.int .i64 ((((List.range n).map Fn).countP fun x => decide (x < d) : Nat) : Int), .bool (((List.range n).map Fn).contains d)]) ∧ W.grownBy w' none := by
  have hl : ((List.range n).map Fn).length = n := by simp
  refine (Try.slices_BinarySearch_int g 0 n cap ((List.range n).map Fn) d W (by omega) (by omega) (fun j hj => ?_) ?_).mono ?_
  · rw [hl] at hj
    obtain ⟨g', e, hc⟩ := h j hj
    injection e with e; injection e with e1 _ _; subst e1
    rw [List.getD_eq_getElem?_getD, Nat.zero_add]
    simpa [hj] using hc
  · rw [List.take_of_length_le (by omega)]
    rw [List.pairwise_map]
    exact List.Pairwise.imp (fun h => hm _ _ (Nat.le_of_lt h)) List.pairwise_lt_range
  · rintro e w' ⟨rfl, q, rfl⟩
    rw [List.take_of_length_le (by omega)]
    exact ⟨rfl, grown_drewN _ _ _⟩

theorem cell_far2 {W : World} {B X k i j : Nat} {v x y : Value} (h : B ≠ X) (hc : W.cell? ⟨X, k, none⟩ = some v) : ((W.setCell ⟨B, i, none⟩ x).setCell ⟨B, j, none⟩ y).cell? ⟨X, k, none⟩ = some v := by
  rw [World.cell?_setCell_other _ _ _ _ (by intro e; injection e with e; exact h e), World.cell?_setCell_other _ _ _ _ (by intro e; injection e with e; exact h e)]
  exact hc

set_option maxRecDepth 100000 in
set_option maxHeartbeats 6400000 in
theorem placeAfter_is (so : Option Addr) (sc : Nat) (ss : List Smp) (HOK : Hid (SOk ss)) (hl : 0 < ss.length) (wa : Option Addr) (wc0 : Nat) (d : Int) (h0 : 0 ≤ d) (hd : d ≤ wayN ss (ss.length - 1)) (w : World) (hs : SmpsAt w so ss) (hw : IntsC w wa ss.length (wayN ss)) {P : Pt} (hP : Hid (plV ss d = P)) :
    Calls Try.prog 62 #[.slice so ss.length sc, .slice wa ss.length wc0, .int .i64 d] w fun e w' => e = .returned (.agg #[.int .i64 P.x, .int .i64 P.y]) ∧ w.grownBy w' none := by
  have hpl : ∀ x ∈ ss, inPlane x := fun x hx => by
    obtain ⟨i, hi, rfl⟩ := List.getElem_of_mem hx
    have := (HOK.out.inn i hi).2.2.1
    rwa [smpD_at hi] at this
  obtain ⟨gw, hgw, _⟩ := hw 0 hl
  subst hgw
  obtain ⟨b, off, hso, qs⟩ := smps_at1 hs hl
  subst hso
  obtain ⟨il, ile⟩ := ixW_lt hpl hl hd
  have ihas := ixW_has hpl hl hd
  have ipos := ixW_pos hpl hl h0 hd
  have hln : ss.length ≤ 20000 := by have := HOK.out.len; omega
  have HW := Lib.hid hw; have HS := Lib.hid hs
  have hv := hP.out
  unfold plV at hv
  have IX : Hid (((List.range ss.length).map (wayN ss)).countP (fun x => decide (x < d)) = ixW ss d) := rfl
  obtain ⟨px, py⟩ := P
  have KB : ∀ W : World, IntsC W (some ⟨gw, 0, none⟩) ss.length (wayN ss) → Calls Try.prog 88 #[.slice (some ⟨gw, 0, none⟩) ss.length wc0, .int .i64 d] W fun e w' => e = .returned (.tuple #[.int .i64 (ixW ss d : Nat), .bool (decide (wayN ss (ixW ss d) = d))]) ∧ W.grownBy w' none := fun W h => by
    have q := ints_search (cap := wc0) h (fun i j hij => by have := way_le hpl (j - i) i; rwa [show i + (j - i) = j by omega] at this) hln d
    rw [ihas, IX.out] at q; exact q
  have KBH := Lib.hid KB
  obtain ⟨p0, p1, p2, p3, p4, p5, p6⟩ := qs (ixW ss d) il
  rw [← smpD_at il] at p0 p1 p2 p3 p4 p5 p6
  have PQ0 := HOK.out.inn _ il
  have WB := wayN_bd hpl (ixW ss d)
  clear KB ihas IX
  have i0 : (ixW ss d : Int) < (ss.length : Int) := by omega
  by_cases hf : wayN ss (ixW ss d) = d
  · have hdf : decide (wayN ss (ixW ss d) = d) = true := decide_eq_true hf
    rw [if_pos hf] at hv
    rw [hdf] at KBH
    clear qs ipos hf hdf hd h0
    generalize ixW ss d = i at *
    generalize smpD ss i = Q at *
    obtain ⟨qt, qx, qy, qz, qp, qq, qs⟩ := Q
    injection hv with hv1 hv2
    simp only at hv1 hv2 p0 p1 p2 p3 p4 p5 p6
    subst hv1; subst hv2
    have GA := World.grownBy_alloc w (.cells #[.int .i64 0, .int .i64 0] 64) none
    have bR := mheap_new w (.cells #[.int .i64 0, .int .i64 0] 64)
    have q0 := grown_cell GA p0; have q1 := grown_cell GA p1; have q2 := grown_cell GA p2; have q3 := grown_cell GA p3; have q4 := grown_cell GA p4; have q5 := grown_cell GA p5; have q6 := grown_cell GA p6
    have HW2 := Lib.hid (HW.out.grown GA)
    have GAH := Lib.hid GA; have BR := Lib.hid bR
    clear p0 p1 p2 p3 p4 p5 p6 GA bR
    go_enter Try.func62, Try.ntmps62
    go_wp2_with fail
    generalize w.alloc (.cells #[.int .i64 0, .int .i64 0] 64) = w1 at *
    refine (KBH.out _ HW2.out).mono ?_; rintro e w2 ⟨rfl, hg2⟩
    have r0 := grown_cell hg2 q0; have r1 := grown_cell hg2 q1; have r2 := grown_cell hg2 q2; have r3 := grown_cell hg2 q3; have r4 := grown_cell hg2 q4; have r5 := grown_cell hg2 q5; have r6 := grown_cell hg2 q6
    have G2 := Lib.hid (grown_trans GAH.out hg2); have BR2 := Lib.hid (mblock_at BR.out hg2 (by simp))
    clear hg2 q0 q1 q2 q3 q4 q5 q6
    go_wp2_with fail
    refine (placeOf_is ⟨qt, qx, qy, qz, qp, qq, qs⟩ _).mono ?_; rintro e w3 ⟨rfl, hg3⟩
    have G3 := Lib.hid (grown_trans G2.out hg3)
    have br := mblock_at BR2.out hg3 (by simp)
    have z0 := mblock_cell br 0 _ rfl; have z1 := mblock_cell br 1 _ rfl
    have f0 := mblock_free (k := 0) br; have f1 := mblock_free (k := 1) br
    have BR3 := Lib.hid br
    clear hg3 br r0 r1 r2 r3 r4 r5 r6
    go_wp2_with fail
    have bz := mblock_set (k := 1) (mblock_set (k := 0) BR3.out (.int .i64 qx)) (.int .i64 qy)
    have gz := mgrown_set (mgrown_set G3.out (Nat.le_refl _) 0 (.int .i64 qx)) (Nat.le_refl _) 1 (.int .i64 qy)
    have y0 := mblock_cell bz 0 (.int .i64 qx) rfl; have y1 := mblock_cell bz 1 (.int .i64 qy) rfl
    generalize (w3.setCell ⟨w.heap.size, 0, none⟩ (.int .i64 qx)).setCell ⟨w.heap.size, 1, none⟩ (.int .i64 qy) = w4 at *
    refine bodyPost_ret (v := .agg #[.int .i64 qx, .int .i64 qy]) (by simp [results, Try.results62, go_sem, y0, y1]) rfl ⟨rfl, gz⟩
  · have hdf : decide (wayN ss (ixW ss d) = d) = false := decide_eq_false hf
    rw [if_neg hf] at hv
    rw [hdf] at KBH
    obtain ⟨i1, i2⟩ := ipos hf
    have im : ixW ss d - 1 < ss.length := by omega
    obtain ⟨u0, u1, u2, u3, u4, u5, u6⟩ := qs (ixW ss d - 1) im
    rw [← smpD_at im] at u0 u1 u2 u3 u4 u5 u6
    have PQ1 := HOK.out.inn _ im
    have WB1 := wayN_bd hpl (ixW ss d - 1)
    have WS : wayN ss (ixW ss d) - wayN ss (ixW ss d - 1) ≤ 300000000 := by
      have q := (stepW_bd (smpD_plane hpl (ixW ss d - 1)) (smpD_plane hpl (ixW ss d - 1 + 1))).2
      have e : wayN ss (ixW ss d) = wayN ss (ixW ss d - 1) + stepW (smpD ss (ixW ss d - 1)) (smpD ss (ixW ss d - 1 + 1)) := by
        have : ixW ss d = ixW ss d - 1 + 1 := by omega
        conv => lhs; rw [this]
        rfl
      omega
    have cW : IntsC w (some ⟨gw, 0, none⟩) ss.length (wayN ss) := HW.out
    obtain ⟨g', e', c1⟩ := cW _ im
    injection e' with e'; injection e' with e1 _ _; subst e1
    obtain ⟨g', e', c2⟩ := cW _ il
    injection e' with e'; injection e' with e1 _ _; subst e1
    obtain ⟨m, hm⟩ : ∃ m, ixW ss d - 1 = m := ⟨_, rfl⟩
    have em : (ixW ss d : Int) - 1 = (m : Int) := by omega
    have rm : IntKind.i64.wrap (m : Int) = (m : Int) := IntWalk.i64_in _ (by omega)
    have m0 : (m : Int) < (ss.length : Int) := by omega
    have hie : ixW ss d = m + 1 := by omega
    simp only [hm] at hv i2 u0 u1 u2 u3 u4 u5 u6 PQ1 WB1 WS c1
    obtain ⟨wi, hwi⟩ : ∃ x, wayN ss (ixW ss d) = x := ⟨_, rfl⟩
    obtain ⟨wm, hwm⟩ : ∃ x, wayN ss m = x := ⟨_, rfl⟩
    simp only [hwi, hwm] at hv i2 ile WB WB1 WS c1 c2 KBH
    obtain ⟨part, hpart⟩ : ∃ x, d - wm = x := ⟨_, rfl⟩
    obtain ⟨whole, hwhole⟩ : ∃ x, wi - wm = x := ⟨_, rfl⟩
    rw [hpart, hwhole] at hv
    have PWH : Hid (0 ≤ part ∧ part ≤ whole ∧ 1 ≤ whole ∧ whole ≤ 300000000) := by show _ ∧ _; omega
    have rp : IntKind.i64.wrap (d - wm) = part := by rw [hpart]; exact IntWalk.i64_in _ (by have := PWH.out; omega)
    have rw_ : IntKind.i64.wrap (wi - wm) = whole := by rw [hwhole]; exact IntWalk.i64_in _ (by have := PWH.out; omega)
    have B0 : Hid (inPlane (smpD ss m)) := PQ1.2.2.1
    have B1 : Hid (inPlane (smpD ss (ixW ss d))) := PQ0.2.2.1
    clear qs ipos hf hdf hd h0 PQ0 PQ1 WB WB1 WS cW i2 hpart hwhole ile hie hm i1
    generalize ixW ss d = i at *
    generalize smpD ss i = Q at *
    generalize smpD ss m = O at *
    obtain ⟨qt, qx, qy, qz, qp, qq, qs⟩ := Q
    obtain ⟨pt, ox, oy, pz, pp, pq, ps⟩ := O
    unfold inPlane at B0 B1
    simp only at p0 p1 p2 p3 p4 p5 p6 u0 u1 u2 u3 u4 u5 u6 hv
    injection hv with hv1 hv2
    have HV1 := Lib.hid hv1; have HV2 := Lib.hid hv2
    clear hv1 hv2
    have GA := World.grownBy_alloc w (.cells #[.int .i64 0, .int .i64 0] 64) none
    have bR := mheap_new w (.cells #[.int .i64 0, .int .i64 0] 64)
    have HW2 := Lib.hid (HW.out.grown GA)
    have GAH := Lib.hid GA; have BR := Lib.hid bR
    clear GA bR
    go_enter Try.func62, Try.ntmps62
    go_wp2_with fail
    generalize w.alloc (.cells #[.int .i64 0, .int .i64 0] 64) = w1 at *
    refine (KBH.out _ HW2.out).mono ?_; rintro e w2 ⟨rfl, hg2⟩
    have G2 := Lib.hid (grown_trans GAH.out hg2); have BR2 := Lib.hid (mblock_at BR.out hg2 (by simp))
    have q0 := grown_cell G2.out p0; have o0 := grown_cell G2.out u0
    have q1 := grown_cell G2.out p1; have o1 := grown_cell G2.out u1
    have q2 := grown_cell G2.out p2; have o2 := grown_cell G2.out u2
    have q3 := grown_cell G2.out p3; have o3 := grown_cell G2.out u3
    have q4 := grown_cell G2.out p4; have o4 := grown_cell G2.out u4
    have q5 := grown_cell G2.out p5; have o5 := grown_cell G2.out u5
    have q6 := grown_cell G2.out p6; have o6 := grown_cell G2.out u6
    have d1 := grown_cell G2.out c1; have d2 := grown_cell G2.out c2
    clear hg2 p0 p1 p2 p3 p4 p5 p6 u0 u1 u2 u3 u4 u5 u6 c1 c2
    go_upto_region 4 with (fail)
    go_cut [9, 10] (fun s9 s10 wx => ∃ X Y, s9 = .pointer (some ⟨X, 0, none⟩) ∧ s10 = .pointer (some ⟨Y, 0, none⟩) ∧ Hid (wx.heap[X]? = some (.cells #[.int .i64 pt, .int .i64 ox, .int .i64 oy, .int .i64 pz, .int .i64 pp, .int .i64 pq, .int .i64 ps] 79 (0, 0))) ∧ Hid (wx.heap[Y]? = some (.cells #[.int .i64 qt, .int .i64 qx, .int .i64 qy, .int .i64 qz, .int .i64 qp, .int .i64 qq, .int .i64 qs] 79 (0, 0))) ∧ Hid (w2.grownBy wx none))
    case first =>
      have gd : w2.grownBy w2.drew none := grown_drewN w2 none 1
      refine region_late (lateK (fun V => w2.grownBy V none) []) (by kernel_rfl) gd (fun hC0 hS0 => ?_)
      have gd := Lib.hid gd
      generalize w2.drew = wd at *
      refine wpAnyS_take (i := 0) (oi := ?oi1) (v := .slice (some ⟨b, off, none⟩) ss.length sc) ?hi1 (by kernel_rfl) (by kernel_rfl) (by kernel_rfl) (lateK_iff (by rfl)) ?hq1 ?hy1 hC0 hS0 ?rest1
      case hi1 => simp only [List.getElem?_toArray, List.getElem?_cons_succ, List.getElem?_cons_zero, Option.some.injEq]; rfl
      case hq1 => exact fun _ _ _ h => h
      case hy1 =>
        refine Or.inl ⟨by kernel_rfl, fun V hV => ?_⟩
        clear hV
        go_simp
      intro hC1 hS1
      clear hC0 hS0
      try simp only [Go.Act.put, List.setIfInBounds_toArray, List.set_cons_zero, List.set_cons_succ]
      refine wpAnyS_take (i := 1) (oi := ?oi2) (v := .int .i64 (i : Int)) ?hi2 (by kernel_rfl) (by kernel_rfl) (by kernel_rfl) (lateK_iff (by rfl)) ?hq2 ?hy2 hC1 hS1 ?rest2
      case hi2 => simp only [List.getElem?_toArray, List.getElem?_cons_succ, List.getElem?_cons_zero, Option.some.injEq]; rfl
      case hq2 => exact fun _ _ _ h => h
      case hy2 =>
        refine Or.inl ⟨by kernel_rfl, fun V hV => ?_⟩
        clear hV
        go_simp
      intro hC2 hS2
      clear hC1 hS1
      try simp only [Go.Act.put, List.setIfInBounds_toArray, List.set_cons_zero, List.set_cons_succ]
      refine wpAnyS_take (i := 2) (oi := ?oi3) (v := .int .i64 (m : Int)) ?hi3 (by kernel_rfl) (by kernel_rfl) (by kernel_rfl) (lateK_iff (by rfl)) ?hq3 ?hy3 hC2 hS2 ?rest3
      case hi3 => simp only [List.getElem?_toArray, List.getElem?_cons_succ, List.getElem?_cons_zero, Option.some.injEq]; rfl
      case hq3 => exact fun _ _ _ h => h
      case hy3 =>
        refine Or.inl ⟨by kernel_rfl, fun V hV => ?_⟩
        clear hV
        go_simp
      intro hC3 hS3
      clear hC2 hS2
      try simp only [Go.Act.put, List.setIfInBounds_toArray, List.set_cons_zero, List.set_cons_succ]
      refine wpAnyS_take (i := 3) (oi := ?oi4) (v := .pointer (some ⟨b, off + m * 7, none⟩)) ?hi4 (by kernel_rfl) (by kernel_rfl) (by kernel_rfl) (lateK_iff (by rfl)) ?hq4 ?hy4 hC3 hS3 ?rest4
      case hi4 => simp only [List.getElem?_toArray, List.getElem?_cons_succ, List.getElem?_cons_zero, Option.some.injEq]; rfl
      case hq4 => exact fun _ _ _ h => h
      case hy4 =>
        refine Or.inl ⟨by kernel_rfl, fun V hV => ?_⟩
        clear hV
        go_simp
      intro hC4 hS4
      clear hC3 hS3
      try simp only [Go.Act.put, List.setIfInBounds_toArray, List.set_cons_zero, List.set_cons_succ]
      refine wpAnyS_take (i := 4) (oi := ?oi5) (v := .agg #[.int .i64 pt, .int .i64 ox, .int .i64 oy, .int .i64 pz, .int .i64 pp, .int .i64 pq, .int .i64 ps]) ?hi5 (by kernel_rfl) (by kernel_rfl) (by kernel_rfl) (lateK_iff (by rfl)) ?hq5 ?hy5 hC4 hS4 ?rest5
      case hi5 => simp only [List.getElem?_toArray, List.getElem?_cons_succ, List.getElem?_cons_zero, Option.some.injEq]; rfl
      case hq5 => exact fun _ _ _ h => h
      case hy5 =>
        refine Or.inl ⟨by kernel_rfl, fun V hV => ?_⟩
        have gV := lateK_g hV; have zz0 := grown_cell gV o0; have zz1 := grown_cell gV o1; have zz2 := grown_cell gV o2; have zz3 := grown_cell gV o3; have zz4 := grown_cell gV o4; have zz5 := grown_cell gV o5; have zz6 := grown_cell gV o6; clear gV; clear hV
        go_simp
      intro hC5 hS5
      clear hC4 hS4
      try simp only [Go.Act.put, List.setIfInBounds_toArray, List.set_cons_zero, List.set_cons_succ]
      refine wpAnyS_take (i := 5) (oi := ?oi6) (v := .slice (some ⟨b, off, none⟩) ss.length sc) ?hi6 (by kernel_rfl) (by kernel_rfl) (by kernel_rfl) (lateK_iff (by rfl)) ?hq6 ?hy6 hC5 hS5 ?rest6
      case hi6 => simp only [List.getElem?_toArray, List.getElem?_cons_succ, List.getElem?_cons_zero, Option.some.injEq]; rfl
      case hq6 => exact fun _ _ _ h => h
      case hy6 =>
        refine Or.inl ⟨by kernel_rfl, fun V hV => ?_⟩
        clear hV
        go_simp
      intro hC6 hS6
      clear hC5 hS5
      try simp only [Go.Act.put, List.setIfInBounds_toArray, List.set_cons_zero, List.set_cons_succ]
      refine wpAnyS_take (i := 6) (oi := ?oi7) (v := .int .i64 (i : Int)) ?hi7 (by kernel_rfl) (by kernel_rfl) (by kernel_rfl) (lateK_iff (by rfl)) ?hq7 ?hy7 hC6 hS6 ?rest7
      case hi7 => simp only [List.getElem?_toArray, List.getElem?_cons_succ, List.getElem?_cons_zero, Option.some.injEq]; rfl
      case hq7 => exact fun _ _ _ h => h
      case hy7 =>
        refine Or.inl ⟨by kernel_rfl, fun V hV => ?_⟩
        clear hV
        go_simp
      intro hC7 hS7
      clear hC6 hS6
      try simp only [Go.Act.put, List.setIfInBounds_toArray, List.set_cons_zero, List.set_cons_succ]
      refine wpAnyS_take (i := 7) (oi := ?oi8) (v := .pointer (some ⟨b, off + i * 7, none⟩)) ?hi8 (by kernel_rfl) (by kernel_rfl) (by kernel_rfl) (lateK_iff (by rfl)) ?hq8 ?hy8 hC7 hS7 ?rest8
      case hi8 => simp only [List.getElem?_toArray, List.getElem?_cons_succ, List.getElem?_cons_zero, Option.some.injEq]; rfl
      case hq8 => exact fun _ _ _ h => h
      case hy8 =>
        refine Or.inl ⟨by kernel_rfl, fun V hV => ?_⟩
        clear hV
        go_simp
      intro hC8 hS8
      clear hC7 hS7
      try simp only [Go.Act.put, List.setIfInBounds_toArray, List.set_cons_zero, List.set_cons_succ]
      refine wpAnyS_take (i := 8) (oi := ?oi9) (v := .agg #[.int .i64 qt, .int .i64 qx, .int .i64 qy, .int .i64 qz, .int .i64 qp, .int .i64 qq, .int .i64 qs]) ?hi9 (by kernel_rfl) (by kernel_rfl) (by kernel_rfl) (lateK_iff (by rfl)) ?hq9 ?hy9 hC8 hS8 ?rest9
      case hi9 => simp only [List.getElem?_toArray, List.getElem?_cons_succ, List.getElem?_cons_zero, Option.some.injEq]; rfl
      case hq9 => exact fun _ _ _ h => h
      case hy9 =>
        refine Or.inl ⟨by kernel_rfl, fun V hV => ?_⟩
        have gV := lateK_g hV; have zz0 := grown_cell gV q0; have zz1 := grown_cell gV q1; have zz2 := grown_cell gV q2; have zz3 := grown_cell gV q3; have zz4 := grown_cell gV q4; have zz5 := grown_cell gV q5; have zz6 := grown_cell gV q6; clear gV; clear hV
        go_simp
      intro hC9 hS9
      clear hC8 hS8
      try simp only [Go.Act.put, List.setIfInBounds_toArray, List.set_cons_zero, List.set_cons_succ]
      refine wpAnyS_ready (rs := [9, 10]) (by kernel_rfl) (by simp) ?_
      refine AllReadyS.cons rfl hC9 (fun K hK => ?b9) (AllReadyS.cons rfl hC9 (fun K hK => ?b10) AllReadyS.nil)
      case b9 =>
        go_simp
        obtain ⟨X, hX⟩ : ∃ B, wd.heap.size = B := ⟨_, rfl⟩
        obtain ⟨V1, hV1⟩ : ∃ V, wd.alloc (.cells #[.int .i64 0, .int .i64 0, .int .i64 0, .int .i64 0, .int .i64 0, .int .i64 0, .int .i64 0] 79) = V := ⟨_, rfl⟩
        have C1 : Hid (V1.heap[X]? = some (.cells #[.int .i64 0, .int .i64 0, .int .i64 0, .int .i64 0, .int .i64 0, .int .i64 0, .int .i64 0] 79 (0, 0))) := by show _; rw [← hV1, ← hX]; exact mheap_new _ _
        have G1 : Hid (w2.grownBy V1 none) := by show _; rw [← hV1]; exact grown_trans gd.out (World.grownBy_alloc _ _ _)
        have P1 : Hid (w2.heap.size ≤ X) := by have := gd.out.size; show _ ≤ _; omega
        rw [hV1, hX]
        clear hV1 hX
        refine hK.out _ _ G1.out (fun hCa1 hSa1 => ?_)
        clear hK K hC9 hS9
        try simp only [Go.Act.put, List.setIfInBounds_toArray, List.set_cons_zero, List.set_cons_succ]
        refine wpAnyS_ready (rs := [10]) (by kernel_rfl) (by simp) ?_
        refine AllReadyS.cons rfl hCa1 (fun K hK => ?_) AllReadyS.nil
        go_simp
        obtain ⟨Y, hY⟩ : ∃ B, V1.heap.size = B := ⟨_, rfl⟩
        obtain ⟨V2, hV2⟩ : ∃ V, V1.alloc (.cells #[.int .i64 0, .int .i64 0, .int .i64 0, .int .i64 0, .int .i64 0, .int .i64 0, .int .i64 0] 79) = V := ⟨_, rfl⟩
        have C2 : Hid (V2.heap[Y]? = some (.cells #[.int .i64 0, .int .i64 0, .int .i64 0, .int .i64 0, .int .i64 0, .int .i64 0, .int .i64 0] 79 (0, 0))) := by show _; rw [← hV2, ← hY]; exact mheap_new _ _
        have NE : Hid (X ≠ Y) := by have := lt_of_block C1.out; show _ ≠ _; omega
        replace C1 : Hid (V2.heap[X]? = some (.cells #[.int .i64 0, .int .i64 0, .int .i64 0, .int .i64 0, .int .i64 0, .int .i64 0, .int .i64 0] 79 (0, 0))) := by show _; rw [← hV2]; exact mblock_at (row := none) C1.out (World.grownBy_alloc _ _ _) (by simp)
        have P2 : Hid (w2.heap.size ≤ Y) := by have := G1.out.size; show _ ≤ _; omega
        replace G1 : Hid (w2.grownBy V2 none) := by show _; rw [← hV2]; exact grown_trans G1.out (World.grownBy_alloc _ _ _)
        rw [hV2, hY]
        clear hV2 hY
        refine hK.out _ _ G1.out (fun hCa2 hSa2 => ?_)
        clear hK K hCa1 hSa1
        try simp only [Go.Act.put, List.setIfInBounds_toArray, List.set_cons_zero, List.set_cons_succ]
        refine wpAnyS_ready (rs := [11]) (by kernel_rfl) (by simp) ?_
        refine AllReadyS.cons rfl hCa2 (fun K hK => ?_) AllReadyS.nil
        have z0 := mblock_cell C1.out 0 _ rfl
        have y0 := mblock_free (k := 0) C1.out
        have z1 := mblock_cell C1.out 1 _ rfl
        have y1 := mblock_free (k := 1) C1.out
        have z2 := mblock_cell C1.out 2 _ rfl
        have y2 := mblock_free (k := 2) C1.out
        have z3 := mblock_cell C1.out 3 _ rfl
        have y3 := mblock_free (k := 3) C1.out
        have z4 := mblock_cell C1.out 4 _ rfl
        have y4 := mblock_free (k := 4) C1.out
        have z5 := mblock_cell C1.out 5 _ rfl
        have y5 := mblock_free (k := 5) C1.out
        have z6 := mblock_cell C1.out 6 _ rfl
        have y6 := mblock_free (k := 6) C1.out
        go_simp
        obtain ⟨V3, hV⟩ : ∃ V, (((((((V2.setCell ⟨X, 0, none⟩ (.int .i64 pt)).setCell ⟨X, 1, none⟩ (.int .i64 ox)).setCell ⟨X, 2, none⟩ (.int .i64 oy)).setCell ⟨X, 3, none⟩ (.int .i64 pz)).setCell ⟨X, 4, none⟩ (.int .i64 pp)).setCell ⟨X, 5, none⟩ (.int .i64 pq)).setCell ⟨X, 6, none⟩ (.int .i64 ps)) = V := ⟨_, rfl⟩
        replace C1 : Hid (V3.heap[X]? = some (.cells #[.int .i64 pt, .int .i64 ox, .int .i64 oy, .int .i64 pz, .int .i64 pp, .int .i64 pq, .int .i64 ps] 79 (0, 0))) := by show _; rw [← hV]; exact (mblock_set (mblock_set (mblock_set (mblock_set (mblock_set (mblock_set (mblock_set C1.out _) _) _) _) _) _) _)
        replace C2 : Hid (V3.heap[Y]? = some (.cells #[.int .i64 0, .int .i64 0, .int .i64 0, .int .i64 0, .int .i64 0, .int .i64 0, .int .i64 0] 79 (0, 0))) := by show _; rw [← hV]; exact (mblock_far (mblock_far (mblock_far (mblock_far (mblock_far (mblock_far (mblock_far C2.out (Ne.symm NE.out) _ _) (Ne.symm NE.out) _ _) (Ne.symm NE.out) _ _) (Ne.symm NE.out) _ _) (Ne.symm NE.out) _ _) (Ne.symm NE.out) _ _) (Ne.symm NE.out) _ _)
        replace G1 : Hid (w2.grownBy V3 none) := by show _; rw [← hV]; exact (mgrown_set (mgrown_set (mgrown_set (mgrown_set (mgrown_set (mgrown_set (mgrown_set G1.out P1.out _ _) P1.out _ _) P1.out _ _) P1.out _ _) P1.out _ _) P1.out _ _) P1.out _ _)
        rw [hV]
        clear hV z0 y0 z1 y1 z2 y2 z3 y3 z4 y4 z5 y5 z6 y6
        refine hK.out _ _ G1.out (fun hCa3 hSa3 => ?_)
        clear hK K hCa2 hSa2
        try simp only [Go.Act.put, List.setIfInBounds_toArray, List.set_cons_zero, List.set_cons_succ]
        refine wpAnyS_ready (rs := [12]) (by kernel_rfl) (by simp) ?_
        refine AllReadyS.cons rfl hCa3 (fun K hK => ?_) AllReadyS.nil
        have z0 := mblock_cell C2.out 0 _ rfl
        have y0 := mblock_free (k := 0) C2.out
        have z1 := mblock_cell C2.out 1 _ rfl
        have y1 := mblock_free (k := 1) C2.out
        have z2 := mblock_cell C2.out 2 _ rfl
        have y2 := mblock_free (k := 2) C2.out
        have z3 := mblock_cell C2.out 3 _ rfl
        have y3 := mblock_free (k := 3) C2.out
        have z4 := mblock_cell C2.out 4 _ rfl
        have y4 := mblock_free (k := 4) C2.out
        have z5 := mblock_cell C2.out 5 _ rfl
        have y5 := mblock_free (k := 5) C2.out
        have z6 := mblock_cell C2.out 6 _ rfl
        have y6 := mblock_free (k := 6) C2.out
        go_simp
        obtain ⟨V4, hV⟩ : ∃ V, (((((((V3.setCell ⟨Y, 0, none⟩ (.int .i64 qt)).setCell ⟨Y, 1, none⟩ (.int .i64 qx)).setCell ⟨Y, 2, none⟩ (.int .i64 qy)).setCell ⟨Y, 3, none⟩ (.int .i64 qz)).setCell ⟨Y, 4, none⟩ (.int .i64 qp)).setCell ⟨Y, 5, none⟩ (.int .i64 qq)).setCell ⟨Y, 6, none⟩ (.int .i64 qs)) = V := ⟨_, rfl⟩
        replace C2 : Hid (V4.heap[Y]? = some (.cells #[.int .i64 qt, .int .i64 qx, .int .i64 qy, .int .i64 qz, .int .i64 qp, .int .i64 qq, .int .i64 qs] 79 (0, 0))) := by show _; rw [← hV]; exact (mblock_set (mblock_set (mblock_set (mblock_set (mblock_set (mblock_set (mblock_set C2.out _) _) _) _) _) _) _)
        replace C1 : Hid (V4.heap[X]? = some (.cells #[.int .i64 pt, .int .i64 ox, .int .i64 oy, .int .i64 pz, .int .i64 pp, .int .i64 pq, .int .i64 ps] 79 (0, 0))) := by show _; rw [← hV]; exact (mblock_far (mblock_far (mblock_far (mblock_far (mblock_far (mblock_far (mblock_far C1.out NE.out _ _) NE.out _ _) NE.out _ _) NE.out _ _) NE.out _ _) NE.out _ _) NE.out _ _)
        replace G1 : Hid (w2.grownBy V4 none) := by show _; rw [← hV]; exact (mgrown_set (mgrown_set (mgrown_set (mgrown_set (mgrown_set (mgrown_set (mgrown_set G1.out P2.out _ _) P2.out _ _) P2.out _ _) P2.out _ _) P2.out _ _) P2.out _ _) P2.out _ _)
        rw [hV]
        clear hV z0 y0 z1 y1 z2 y2 z3 y3 z4 y4 z5 y5 z6 y6
        refine hK.out _ _ G1.out (fun hCa4 hSa4 => ?_)
        clear hK K hCa3 hSa3
        try simp only [Go.Act.put, List.setIfInBounds_toArray, List.set_cons_zero, List.set_cons_succ]
        refine wpAnyS_done (by kernel_rfl) ?_ _
        clear hCa4 hSa4
        go_wp2_with fail
        go_meet
        exact ⟨X, Y, rfl, rfl, C1, C2, G1⟩
      case b10 =>
        go_simp
        obtain ⟨Y, hY⟩ : ∃ B, wd.heap.size = B := ⟨_, rfl⟩
        obtain ⟨V1, hV1⟩ : ∃ V, wd.alloc (.cells #[.int .i64 0, .int .i64 0, .int .i64 0, .int .i64 0, .int .i64 0, .int .i64 0, .int .i64 0] 79) = V := ⟨_, rfl⟩
        have C1 : Hid (V1.heap[Y]? = some (.cells #[.int .i64 0, .int .i64 0, .int .i64 0, .int .i64 0, .int .i64 0, .int .i64 0, .int .i64 0] 79 (0, 0))) := by show _; rw [← hV1, ← hY]; exact mheap_new _ _
        have G1 : Hid (w2.grownBy V1 none) := by show _; rw [← hV1]; exact grown_trans gd.out (World.grownBy_alloc _ _ _)
        have P1 : Hid (w2.heap.size ≤ Y) := by have := gd.out.size; show _ ≤ _; omega
        rw [hV1, hY]
        clear hV1 hY
        refine hK.out _ _ G1.out (fun hCb1 hSb1 => ?_)
        clear hK K hC9 hS9
        try simp only [Go.Act.put, List.setIfInBounds_toArray, List.set_cons_zero, List.set_cons_succ]
        refine wpAnyS_ready (rs := [9]) (by kernel_rfl) (by simp) ?_
        refine AllReadyS.cons rfl hCb1 (fun K hK => ?_) AllReadyS.nil
        go_simp
        obtain ⟨X, hX⟩ : ∃ B, V1.heap.size = B := ⟨_, rfl⟩
        obtain ⟨V2, hV2⟩ : ∃ V, V1.alloc (.cells #[.int .i64 0, .int .i64 0, .int .i64 0, .int .i64 0, .int .i64 0, .int .i64 0, .int .i64 0] 79) = V := ⟨_, rfl⟩
        have C2 : Hid (V2.heap[X]? = some (.cells #[.int .i64 0, .int .i64 0, .int .i64 0, .int .i64 0, .int .i64 0, .int .i64 0, .int .i64 0] 79 (0, 0))) := by show _; rw [← hV2, ← hX]; exact mheap_new _ _
        have NE : Hid (Y ≠ X) := by have := lt_of_block C1.out; show _ ≠ _; omega
        replace C1 : Hid (V2.heap[Y]? = some (.cells #[.int .i64 0, .int .i64 0, .int .i64 0, .int .i64 0, .int .i64 0, .int .i64 0, .int .i64 0] 79 (0, 0))) := by show _; rw [← hV2]; exact mblock_at (row := none) C1.out (World.grownBy_alloc _ _ _) (by simp)
        have P2 : Hid (w2.heap.size ≤ X) := by have := G1.out.size; show _ ≤ _; omega
        replace G1 : Hid (w2.grownBy V2 none) := by show _; rw [← hV2]; exact grown_trans G1.out (World.grownBy_alloc _ _ _)
        rw [hV2, hX]
        clear hV2 hX
        refine hK.out _ _ G1.out (fun hCb2 hSb2 => ?_)
        clear hK K hCb1 hSb1
        try simp only [Go.Act.put, List.setIfInBounds_toArray, List.set_cons_zero, List.set_cons_succ]
        refine wpAnyS_ready (rs := [11]) (by kernel_rfl) (by simp) ?_
        refine AllReadyS.cons rfl hCb2 (fun K hK => ?_) AllReadyS.nil
        have z0 := mblock_cell C2.out 0 _ rfl
        have y0 := mblock_free (k := 0) C2.out
        have z1 := mblock_cell C2.out 1 _ rfl
        have y1 := mblock_free (k := 1) C2.out
        have z2 := mblock_cell C2.out 2 _ rfl
        have y2 := mblock_free (k := 2) C2.out
        have z3 := mblock_cell C2.out 3 _ rfl
        have y3 := mblock_free (k := 3) C2.out
        have z4 := mblock_cell C2.out 4 _ rfl
        have y4 := mblock_free (k := 4) C2.out
        have z5 := mblock_cell C2.out 5 _ rfl
        have y5 := mblock_free (k := 5) C2.out
        have z6 := mblock_cell C2.out 6 _ rfl
        have y6 := mblock_free (k := 6) C2.out
        go_simp
        obtain ⟨V3, hV⟩ : ∃ V, (((((((V2.setCell ⟨X, 0, none⟩ (.int .i64 pt)).setCell ⟨X, 1, none⟩ (.int .i64 ox)).setCell ⟨X, 2, none⟩ (.int .i64 oy)).setCell ⟨X, 3, none⟩ (.int .i64 pz)).setCell ⟨X, 4, none⟩ (.int .i64 pp)).setCell ⟨X, 5, none⟩ (.int .i64 pq)).setCell ⟨X, 6, none⟩ (.int .i64 ps)) = V := ⟨_, rfl⟩
        replace C2 : Hid (V3.heap[X]? = some (.cells #[.int .i64 pt, .int .i64 ox, .int .i64 oy, .int .i64 pz, .int .i64 pp, .int .i64 pq, .int .i64 ps] 79 (0, 0))) := by show _; rw [← hV]; exact (mblock_set (mblock_set (mblock_set (mblock_set (mblock_set (mblock_set (mblock_set C2.out _) _) _) _) _) _) _)
        replace C1 : Hid (V3.heap[Y]? = some (.cells #[.int .i64 0, .int .i64 0, .int .i64 0, .int .i64 0, .int .i64 0, .int .i64 0, .int .i64 0] 79 (0, 0))) := by show _; rw [← hV]; exact (mblock_far (mblock_far (mblock_far (mblock_far (mblock_far (mblock_far (mblock_far C1.out NE.out _ _) NE.out _ _) NE.out _ _) NE.out _ _) NE.out _ _) NE.out _ _) NE.out _ _)
        replace G1 : Hid (w2.grownBy V3 none) := by show _; rw [← hV]; exact (mgrown_set (mgrown_set (mgrown_set (mgrown_set (mgrown_set (mgrown_set (mgrown_set G1.out P2.out _ _) P2.out _ _) P2.out _ _) P2.out _ _) P2.out _ _) P2.out _ _) P2.out _ _)
        rw [hV]
        clear hV z0 y0 z1 y1 z2 y2 z3 y3 z4 y4 z5 y5 z6 y6
        refine hK.out _ _ G1.out (fun hCb3 hSb3 => ?_)
        clear hK K hCb2 hSb2
        try simp only [Go.Act.put, List.setIfInBounds_toArray, List.set_cons_zero, List.set_cons_succ]
        refine wpAnyS_ready (rs := [12]) (by kernel_rfl) (by simp) ?_
        refine AllReadyS.cons rfl hCb3 (fun K hK => ?_) AllReadyS.nil
        have z0 := mblock_cell C1.out 0 _ rfl
        have y0 := mblock_free (k := 0) C1.out
        have z1 := mblock_cell C1.out 1 _ rfl
        have y1 := mblock_free (k := 1) C1.out
        have z2 := mblock_cell C1.out 2 _ rfl
        have y2 := mblock_free (k := 2) C1.out
        have z3 := mblock_cell C1.out 3 _ rfl
        have y3 := mblock_free (k := 3) C1.out
        have z4 := mblock_cell C1.out 4 _ rfl
        have y4 := mblock_free (k := 4) C1.out
        have z5 := mblock_cell C1.out 5 _ rfl
        have y5 := mblock_free (k := 5) C1.out
        have z6 := mblock_cell C1.out 6 _ rfl
        have y6 := mblock_free (k := 6) C1.out
        go_simp
        obtain ⟨V4, hV⟩ : ∃ V, (((((((V3.setCell ⟨Y, 0, none⟩ (.int .i64 qt)).setCell ⟨Y, 1, none⟩ (.int .i64 qx)).setCell ⟨Y, 2, none⟩ (.int .i64 qy)).setCell ⟨Y, 3, none⟩ (.int .i64 qz)).setCell ⟨Y, 4, none⟩ (.int .i64 qp)).setCell ⟨Y, 5, none⟩ (.int .i64 qq)).setCell ⟨Y, 6, none⟩ (.int .i64 qs)) = V := ⟨_, rfl⟩
        replace C1 : Hid (V4.heap[Y]? = some (.cells #[.int .i64 qt, .int .i64 qx, .int .i64 qy, .int .i64 qz, .int .i64 qp, .int .i64 qq, .int .i64 qs] 79 (0, 0))) := by show _; rw [← hV]; exact (mblock_set (mblock_set (mblock_set (mblock_set (mblock_set (mblock_set (mblock_set C1.out _) _) _) _) _) _) _)
        replace C2 : Hid (V4.heap[X]? = some (.cells #[.int .i64 pt, .int .i64 ox, .int .i64 oy, .int .i64 pz, .int .i64 pp, .int .i64 pq, .int .i64 ps] 79 (0, 0))) := by show _; rw [← hV]; exact (mblock_far (mblock_far (mblock_far (mblock_far (mblock_far (mblock_far (mblock_far C2.out (Ne.symm NE.out) _ _) (Ne.symm NE.out) _ _) (Ne.symm NE.out) _ _) (Ne.symm NE.out) _ _) (Ne.symm NE.out) _ _) (Ne.symm NE.out) _ _) (Ne.symm NE.out) _ _)
        replace G1 : Hid (w2.grownBy V4 none) := by show _; rw [← hV]; exact (mgrown_set (mgrown_set (mgrown_set (mgrown_set (mgrown_set (mgrown_set (mgrown_set G1.out P1.out _ _) P1.out _ _) P1.out _ _) P1.out _ _) P1.out _ _) P1.out _ _) P1.out _ _)
        rw [hV]
        clear hV z0 y0 z1 y1 z2 y2 z3 y3 z4 y4 z5 y5 z6 y6
        refine hK.out _ _ G1.out (fun hCb4 hSb4 => ?_)
        clear hK K hCb3 hSb3
        try simp only [Go.Act.put, List.setIfInBounds_toArray, List.set_cons_zero, List.set_cons_succ]
        refine wpAnyS_done (by kernel_rfl) ?_ _
        clear hCb4 hSb4
        go_wp2_with fail
        go_meet
        exact ⟨X, Y, rfl, rfl, C2, C1, G1⟩
    case rest =>
      obtain ⟨X, Y, rfl, rfl, BX, BY, hGX⟩ := hcut
      have G3 := Lib.hid (grown_trans G2.out hGX.out)
      have e1 := grown_cell hGX.out d1; have e2 := grown_cell hGX.out d2
      have BR3 := Lib.hid (mblock_at BR2.out hGX.out (by simp))
      have NX : Hid (w.heap.size < w2.heap.size) := lt_of_block BR2.out
      clear q0 o0 q1 o1 q2 o2 q3 o3 q4 o4 q5 o5 q6 o6 d1 d2 hGX BR2 G2
      go_wp2_with fail
      go_quiet (fail)
      go_upto_region 6 with (fail)
      clear e1 e2 NX
      have NXY : Hid (w.heap.size ≠ X ∧ w.heap.size ≠ Y) := by
        constructor
        · intro e; have q := BX.out; rw [← e, BR3.out] at q; simp at q
        · intro e; have q := BY.out; rw [← e, BR3.out] at q; simp at q
      have GE := Lib.hid (grown_drewN wc none (nq + 1))
      have G4 := Lib.hid (grown_trans G3.out GE.out)
      have c1 := grown_cell GE.out (mblock_cell BX.out 1 _ rfl); have c2 := grown_cell GE.out (mblock_cell BX.out 2 _ rfl); have c3 := grown_cell GE.out (mblock_cell BY.out 1 _ rfl); have c4 := grown_cell GE.out (mblock_cell BY.out 2 _ rfl)
      have BR4 := Lib.hid (mblock_at BR3.out GE.out (by simp))
      have ge : w.grownBy (wc.drewN (nq + 1)) none ∧ (wc.drewN (nq + 1)).cell? ⟨X, 1, none⟩ = some (.int .i64 ox) ∧ (wc.drewN (nq + 1)).cell? ⟨X, 2, none⟩ = some (.int .i64 oy) ∧ (wc.drewN (nq + 1)).cell? ⟨Y, 1, none⟩ = some (.int .i64 qx) ∧ (wc.drewN (nq + 1)).cell? ⟨Y, 2, none⟩ = some (.int .i64 qy) := ⟨G4.out, c1, c2, c3, c4⟩
      clear GE G3 BR3 BX BY
      refine region_late (lateK (fun V => w.grownBy V none ∧ V.cell? ⟨X, 1, none⟩ = some (.int .i64 ox) ∧ V.cell? ⟨X, 2, none⟩ = some (.int .i64 oy) ∧ V.cell? ⟨Y, 1, none⟩ = some (.int .i64 qx) ∧ V.cell? ⟨Y, 2, none⟩ = some (.int .i64 qy)) []) (by kernel_rfl) ge (fun hCz0 hSz0 => ?_)
      clear ge
      obtain ⟨wd, hwd⟩ : ∃ V, wc.drewN (nq + 1) = V := ⟨_, rfl⟩
      rw [hwd] at G4 c1 c2 c3 c4 BR4
      rw [show (wc.drewN nq).drew = wd from hwd] at *
      clear hwd
      refine wpAnyS_take (i := 0) (oi := ?oiz1) (v := .pointer (some ⟨X, 1, none⟩)) ?hiz1 (by kernel_rfl) (by kernel_rfl) (by kernel_rfl) (lateK_iff (by rfl)) ?hqz1 ?hyz1 hCz0 hSz0 ?restz1
      case hiz1 => simp only [List.getElem?_toArray, List.getElem?_cons_succ, List.getElem?_cons_zero, Option.some.injEq]; rfl
      case hqz1 => exact fun _ _ _ h => h
      case hyz1 =>
        refine Or.inl ⟨by kernel_rfl, fun V hV => ?_⟩
        clear hV
        go_simp
      intro hCz1 hSz1
      clear hCz0 hSz0
      try simp only [Go.Act.put, List.setIfInBounds_toArray, List.set_cons_zero, List.set_cons_succ]
      refine wpAnyS_take (i := 1) (oi := ?oiz2) (v := .int .i64 ox) ?hiz2 (by kernel_rfl) (by kernel_rfl) (by kernel_rfl) (lateK_iff (by rfl)) ?hqz2 ?hyz2 hCz1 hSz1 ?restz2
      case hiz2 => simp only [List.getElem?_toArray, List.getElem?_cons_succ, List.getElem?_cons_zero, Option.some.injEq]; rfl
      case hqz2 => exact fun _ _ _ h => h
      case hyz2 =>
        refine Or.inl ⟨by kernel_rfl, fun V hV => ?_⟩
        have cc := (lateK_g hV).2.1; clear hV
        go_simp
      intro hCz2 hSz2
      clear hCz1 hSz1
      try simp only [Go.Act.put, List.setIfInBounds_toArray, List.set_cons_zero, List.set_cons_succ]
      refine wpAnyS_take (i := 2) (oi := ?oiz3) (v := .pointer (some ⟨Y, 1, none⟩)) ?hiz3 (by kernel_rfl) (by kernel_rfl) (by kernel_rfl) (lateK_iff (by rfl)) ?hqz3 ?hyz3 hCz2 hSz2 ?restz3
      case hiz3 => simp only [List.getElem?_toArray, List.getElem?_cons_succ, List.getElem?_cons_zero, Option.some.injEq]; rfl
      case hqz3 => exact fun _ _ _ h => h
      case hyz3 =>
        refine Or.inl ⟨by kernel_rfl, fun V hV => ?_⟩
        clear hV
        go_simp
      intro hCz3 hSz3
      clear hCz2 hSz2
      try simp only [Go.Act.put, List.setIfInBounds_toArray, List.set_cons_zero, List.set_cons_succ]
      refine wpAnyS_take (i := 3) (oi := ?oiz4) (v := .int .i64 qx) ?hiz4 (by kernel_rfl) (by kernel_rfl) (by kernel_rfl) (lateK_iff (by rfl)) ?hqz4 ?hyz4 hCz3 hSz3 ?restz4
      case hiz4 => simp only [List.getElem?_toArray, List.getElem?_cons_succ, List.getElem?_cons_zero, Option.some.injEq]; rfl
      case hqz4 => exact fun _ _ _ h => h
      case hyz4 =>
        refine Or.inl ⟨by kernel_rfl, fun V hV => ?_⟩
        have cc := (lateK_g hV).2.2.2.1; clear hV
        go_simp
      intro hCz4 hSz4
      clear hCz3 hSz3
      try simp only [Go.Act.put, List.setIfInBounds_toArray, List.set_cons_zero, List.set_cons_succ]
      refine wpAnyS_take (i := 4) (oi := ?oiz5) (v := .int .i64 part) ?hiz5 (by kernel_rfl) (by kernel_rfl) (by kernel_rfl) (lateK_iff (by rfl)) ?hqz5 ?hyz5 hCz4 hSz4 ?restz5
      case hiz5 => simp only [List.getElem?_toArray, List.getElem?_cons_succ, List.getElem?_cons_zero, Option.some.injEq]; rfl
      case hqz5 => exact fun _ _ _ h => h
      case hyz5 =>
        refine Or.inl ⟨by kernel_rfl, fun V hV => ?_⟩
        clear hV
        go_simp
      intro hCz5 hSz5
      clear hCz4 hSz4
      try simp only [Go.Act.put, List.setIfInBounds_toArray, List.set_cons_zero, List.set_cons_succ]
      refine wpAnyS_take (i := 5) (oi := ?oiz6) (v := .int .i64 whole) ?hiz6 (by kernel_rfl) (by kernel_rfl) (by kernel_rfl) (lateK_iff (by rfl)) ?hqz6 ?hyz6 hCz5 hSz5 ?restz6
      case hiz6 => simp only [List.getElem?_toArray, List.getElem?_cons_succ, List.getElem?_cons_zero, Option.some.injEq]; rfl
      case hqz6 => exact fun _ _ _ h => h
      case hyz6 =>
        refine Or.inl ⟨by kernel_rfl, fun V hV => ?_⟩
        clear hV
        go_simp
      intro hCz6 hSz6
      clear hCz5 hSz5
      try simp only [Go.Act.put, List.setIfInBounds_toArray, List.set_cons_zero, List.set_cons_succ]
      refine wpAnyS_take (i := 7) (oi := ?oiz7) (v := .pointer (some ⟨X, 2, none⟩)) ?hiz7 (by kernel_rfl) (by kernel_rfl) (by kernel_rfl) (lateK_iff (by rfl)) ?hqz7 ?hyz7 hCz6 hSz6 ?restz7
      case hiz7 => simp only [List.getElem?_toArray, List.getElem?_cons_succ, List.getElem?_cons_zero, Option.some.injEq]; rfl
      case hqz7 => exact fun _ _ _ h => h
      case hyz7 =>
        refine Or.inl ⟨by kernel_rfl, fun V hV => ?_⟩
        clear hV
        go_simp
      intro hCz7 hSz7
      clear hCz6 hSz6
      try simp only [Go.Act.put, List.setIfInBounds_toArray, List.set_cons_zero, List.set_cons_succ]
      refine wpAnyS_take (i := 8) (oi := ?oiz8) (v := .int .i64 oy) ?hiz8 (by kernel_rfl) (by kernel_rfl) (by kernel_rfl) (lateK_iff (by rfl)) ?hqz8 ?hyz8 hCz7 hSz7 ?restz8
      case hiz8 => simp only [List.getElem?_toArray, List.getElem?_cons_succ, List.getElem?_cons_zero, Option.some.injEq]; rfl
      case hqz8 => exact fun _ _ _ h => h
      case hyz8 =>
        refine Or.inl ⟨by kernel_rfl, fun V hV => ?_⟩
        have cc := (lateK_g hV).2.2.1; clear hV
        go_simp
      intro hCz8 hSz8
      clear hCz7 hSz7
      try simp only [Go.Act.put, List.setIfInBounds_toArray, List.set_cons_zero, List.set_cons_succ]
      refine wpAnyS_take (i := 9) (oi := ?oiz9) (v := .pointer (some ⟨Y, 2, none⟩)) ?hiz9 (by kernel_rfl) (by kernel_rfl) (by kernel_rfl) (lateK_iff (by rfl)) ?hqz9 ?hyz9 hCz8 hSz8 ?restz9
      case hiz9 => simp only [List.getElem?_toArray, List.getElem?_cons_succ, List.getElem?_cons_zero, Option.some.injEq]; rfl
      case hqz9 => exact fun _ _ _ h => h
      case hyz9 =>
        refine Or.inl ⟨by kernel_rfl, fun V hV => ?_⟩
        clear hV
        go_simp
      intro hCz9 hSz9
      clear hCz8 hSz8
      try simp only [Go.Act.put, List.setIfInBounds_toArray, List.set_cons_zero, List.set_cons_succ]
      refine wpAnyS_take (i := 10) (oi := ?oiz10) (v := .int .i64 qy) ?hiz10 (by kernel_rfl) (by kernel_rfl) (by kernel_rfl) (lateK_iff (by rfl)) ?hqz10 ?hyz10 hCz9 hSz9 ?restz10
      case hiz10 => simp only [List.getElem?_toArray, List.getElem?_cons_succ, List.getElem?_cons_zero, Option.some.injEq]; rfl
      case hqz10 => exact fun _ _ _ h => h
      case hyz10 =>
        refine Or.inl ⟨by kernel_rfl, fun V hV => ?_⟩
        have cc := (lateK_g hV).2.2.2.2; clear hV
        go_simp
      intro hCz10 hSz10
      clear hCz9 hSz9
      try simp only [Go.Act.put, List.setIfInBounds_toArray, List.set_cons_zero, List.set_cons_succ]
      refine wpAnyS_take (i := 11) (oi := ?oiz11) (v := .int .i64 part) ?hiz11 (by kernel_rfl) (by kernel_rfl) (by kernel_rfl) (lateK_iff (by rfl)) ?hqz11 ?hyz11 hCz10 hSz10 ?restz11
      case hiz11 => simp only [List.getElem?_toArray, List.getElem?_cons_succ, List.getElem?_cons_zero, Option.some.injEq]; rfl
      case hqz11 => exact fun _ _ _ h => h
      case hyz11 =>
        refine Or.inl ⟨by kernel_rfl, fun V hV => ?_⟩
        clear hV
        go_simp
      intro hCz11 hSz11
      clear hCz10 hSz10
      try simp only [Go.Act.put, List.setIfInBounds_toArray, List.set_cons_zero, List.set_cons_succ]
      refine wpAnyS_take (i := 12) (oi := ?oiz12) (v := .int .i64 whole) ?hiz12 (by kernel_rfl) (by kernel_rfl) (by kernel_rfl) (lateK_iff (by rfl)) ?hqz12 ?hyz12 hCz11 hSz11 ?restz12
      case hiz12 => simp only [List.getElem?_toArray, List.getElem?_cons_succ, List.getElem?_cons_zero, Option.some.injEq]; rfl
      case hqz12 => exact fun _ _ _ h => h
      case hyz12 =>
        refine Or.inl ⟨by kernel_rfl, fun V hV => ?_⟩
        clear hV
        go_simp
      intro hCz12 hSz12
      clear hCz11 hSz11
      try simp only [Go.Act.put, List.setIfInBounds_toArray, List.set_cons_zero, List.set_cons_succ]
      refine wpAnyS_ready (rs := [6]) (by kernel_rfl) (by simp) ?_
      refine AllReadyS.cons rfl hCz12 (fun K hK => ?_) AllReadyS.nil
      go_simp
      refine (mbetween_is ox qx part whole B0.out.1 B1.out.1 PWH.out.1 PWH.out.2.1 PWH.out.2.2.1 (by have := PWH.out; omega) _ HV1).mono ?_; rintro e w7 ⟨rfl, hg7⟩
      have G5 := Lib.hid (grown_trans G4.out hg7); have BR5 := Lib.hid (mblock_at BR4.out hg7 (by simp))
      have k1 := grown_cell hg7 c1; have k2 := grown_cell hg7 c2; have k3 := grown_cell hg7 c3; have k4 := grown_cell hg7 c4
      refine hK.out _ _ ⟨G5.out, k1, k2, k3, k4⟩ (fun hCz13 hSz13 => ?_)
      clear hK hCz12 hSz12 K
      clear hg7 c1 c2 c3 c4 BR4 G4
      try simp only [Go.Act.put, List.setIfInBounds_toArray, List.set_cons_zero, List.set_cons_succ]
      refine wpAnyS_ready (rs := [13]) (by kernel_rfl) (by simp) ?_
      refine AllReadyS.cons rfl hCz13 (fun K hK => ?_) AllReadyS.nil
      go_simp
      refine (mbetween_is oy qy part whole B0.out.2 B1.out.2 PWH.out.1 PWH.out.2.1 PWH.out.2.2.1 (by have := PWH.out; omega) _ HV2).mono ?_; rintro e w8 ⟨rfl, hg8⟩
      have G6 := Lib.hid (grown_trans G5.out hg8); have BR6 := Lib.hid (mblock_at BR5.out hg8 (by simp))
      have m1 := grown_cell hg8 k1; have m2 := grown_cell hg8 k2; have m3 := grown_cell hg8 k3; have m4 := grown_cell hg8 k4
      refine hK.out _ _ ⟨G6.out, m1, m2, m3, m4⟩ (fun hCz14 hSz14 => ?_)
      clear hK hCz13 hSz13 K
      clear hg8 k1 k2 k3 k4 BR5 G5
      try simp only [Go.Act.put, List.setIfInBounds_toArray, List.set_cons_zero, List.set_cons_succ]
      refine wpAnyS_take (i := 14) (oi := ?oiz15) (v := .agg #[.int .i64 px, .int .i64 py]) ?hiz15 (by kernel_rfl) (by kernel_rfl) (by kernel_rfl) (lateK_iff (by rfl)) ?hqz15 ?hyz15 hCz14 hSz14 ?restz15
      case hiz15 => simp only [List.getElem?_toArray, List.getElem?_cons_succ, List.getElem?_cons_zero, Option.some.injEq]; rfl
      case hqz15 => exact fun _ _ _ h => h
      case hyz15 =>
        refine Or.inl ⟨by kernel_rfl, fun V hV => ?_⟩
        clear hV
        go_simp
      intro hCz15 hSz15
      clear hCz14 hSz14
      try simp only [Go.Act.put, List.setIfInBounds_toArray, List.set_cons_zero, List.set_cons_succ]
      refine wpAnyS_ready (rs := [15]) (by kernel_rfl) (by simp) ?_
      refine AllReadyS.cons rfl hCz15 (fun K hK => ?_) AllReadyS.nil
      have z0 := mblock_cell BR6.out 0 _ rfl; have z1 := mblock_cell BR6.out 1 _ rfl
      have f0 := mblock_free (k := 0) BR6.out; have f1 := mblock_free (k := 1) BR6.out
      go_simp
      have bz := mblock_set (k := 1) (mblock_set (k := 0) BR6.out (.int .i64 px)) (.int .i64 py)
      have gz := mgrown_set (mgrown_set G6.out (Nat.le_refl _) 0 (.int .i64 px)) (Nat.le_refl _) 1 (.int .i64 py)
      have q0 := mblock_cell bz 0 (.int .i64 px) rfl; have q1 := mblock_cell bz 1 (.int .i64 py) rfl
      have n1 := cell_far2 (i := 0) (j := 1) (x := .int .i64 px) (y := .int .i64 py) NXY.out.1 m1; have n2 := cell_far2 (i := 0) (j := 1) (x := .int .i64 px) (y := .int .i64 py) NXY.out.1 m2; have n3 := cell_far2 (i := 0) (j := 1) (x := .int .i64 px) (y := .int .i64 py) NXY.out.2 m3; have n4 := cell_far2 (i := 0) (j := 1) (x := .int .i64 px) (y := .int .i64 py) NXY.out.2 m4
      refine hK.out _ _ ⟨gz, n1, n2, n3, n4⟩ (fun hCz16 hSz16 => ?_)
      clear hK hCz15 hSz15 K
      clear z0 z1 f0 f1 n1 n2 n3 n4 m1 m2 m3 m4 bz BR6 G6
      try simp only [Go.Act.put, List.setIfInBounds_toArray, List.set_cons_zero, List.set_cons_succ]
      refine wpAnyS_done (by kernel_rfl) ?_ _
      clear hCz16 hSz16
      generalize (w8.setCell ⟨w.heap.size, 0, none⟩ (.int .i64 px)).setCell ⟨w.heap.size, 1, none⟩ (.int .i64 py) = w9 at *
      go_wp2_with fail
      refine bodyPost_ret (v := .agg #[.int .i64 px, .int .i64 py]) (by simp [results, Try.results62, go_sem, q0, q1]) rfl ⟨rfl, gz⟩
end Go.Proofs.Ytnjanjbjhbniiaa
