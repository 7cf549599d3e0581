/- Crossings of the reference: each gate that is crossed is put where its time belongs. -/
import Derived.Test.YtckelojdjmaliaaMRCr
import Derived.Test.YtckelojdjmaliaaMRLess
import Derived.Test.YtckelojdjmaliaaMRSpc
import Derived.Test.YtckelojdjmaliaaOrdA
import Derived.Test.YtckelojdjmaliaaQRef
import Derived.Deep.CutBlock
import Derived.Deep.DeepCutAuto
namespace Go.Proofs.Ytckelojdjmaliaa
open Go.RowKit
set_option linter.unusedSimpArgs false
set_option linter.unusedVariables false

attribute [local go_sem] Oper.semAt_some

/-- The passings of a step, sorted. -/
def SLc (gs : List Gt) (ss : List Smp) (j : Nat) : List Psg := srtP (passK gs (smpPt (smpD ss j)) (smpPt (smpD ss (j + 1))) gs.length)
theorem steps_ok {gs : List Gt} {ss : List Smp} (hgs : ∀ g ∈ gs, gate1 g = 0) (hn : gs.length ≤ 50) (hok : SOk ss) : StepsOk gs ss (SLc gs ss) := by
  intro j hj
  have hp := smp_plane hok (i := j) (by omega); have hq := smp_plane hok (i := j + 1) hj
  have hl := passK_len gs (smpPt (smpD ss j)) (smpPt (smpD ss (j + 1))) gs.length
  exact ⟨sort_ok (passK_in hgs hp hq gs.length (Nat.le_refl _) hn) (by omega), srtP_perm _⟩
theorem passK_pre (gs : List Gt) (p q : Pt) (k : Nat) : ∀ d, ∃ r, passK gs p q (k + d) = passK gs p q k ++ r
  | 0 => ⟨[], by simp⟩
  | d + 1 => by
    obtain ⟨r, hr⟩ := passK_pre gs p q k d
    exact ⟨r ++ pas1 (gtD gs (k + d)) (k + d) p q, by show passK gs p q (k + d) ++ _ = _; rw [hr, List.append_assoc]; rfl⟩
theorem passK_get {gs : List Gt} {p q : Pt} {k : Nat} (hk : k < gs.length) (hc : crosB (gtD gs k) p q = true) :
    psD (passK gs p q gs.length) (passK gs p q k).length = ⟨k, -sideV (gtD gs k).A (gtD gs k).B p, sideV (gtD gs k).A (gtD gs k).B q - sideV (gtD gs k).A (gtD gs k).B p⟩ ∧ (passK gs p q k).length < (passK gs p q gs.length).length ∧ (passK gs p q (k + 1)).length = (passK gs p q k).length + 1 := by
  have e1 : passK gs p q (k + 1) = passK gs p q k ++ [⟨k, -sideV (gtD gs k).A (gtD gs k).B p, sideV (gtD gs k).A (gtD gs k).B q - sideV (gtD gs k).A (gtD gs k).B p⟩] := by
    show passK gs p q k ++ pas1 (gtD gs k) k p q = _
    unfold pas1; rw [if_pos hc]
  obtain ⟨r, hr⟩ := passK_pre gs p q (k + 1) (gs.length - (k + 1))
  rw [show k + 1 + (gs.length - (k + 1)) = gs.length by omega, e1] at hr
  refine ⟨?_, by rw [hr]; simp, by rw [e1]; simp⟩
  unfold psD
  rw [hr, List.getD_eq_getElem?_getD, List.append_assoc, List.getElem?_append_right (Nat.le_refl _), Nat.sub_self]
  rfl
theorem passK_skip {gs : List Gt} {p q : Pt} {k : Nat} (hc : crosB (gtD gs k) p q = false) : passK gs p q (k + 1) = passK gs p q k := by
  show passK gs p q k ++ pas1 (gtD gs k) k p q = _
  unfold pas1; rw [if_neg (by rw [hc]; simp)]; simp
def prCs (x : Psg) : List Value := [.int .i64 x.part, .int .i64 x.whole]
def crF (P Q : Smp) (j : Nat) (FL : List Psg) (i : Nat) : Crs := crs1 P Q j (psD FL i)
theorem info_two : (Try.prog.info? 91).map (fun i => (i.zero, i.size, i.bytes)) = some (some (.agg #[.int .i64 0, .int .i64 0]), 2, 16) := by kernel_rfl
theorem own_open {w : World} {base e s n : Nat} {v : Value} {xs : List Value} (h : w.ownsRow base e s v n xs) (hn : 0 < n) : ∃ g cap, v = .slice (some ⟨g, 0, none⟩) n cap := by
  rcases h.2 with ⟨_, h0⟩ | ⟨g, cap, cur, hv, _⟩
  · omega
  · exact ⟨g, cap, hv⟩
theorem ob_ne {a b : Option Nat} (h : ∀ r, b = some r → a ≠ some r) : a = none ∨ a ≠ b := by
  cases a with
  | none => exact .inl rfl
  | some x => exact .inr fun e => h x e.symm rfl
theorem own_shape {w : World} {base e s n : Nat} {v : Value} {xs : List Value} (h : w.ownsRow base e s v n xs) : ∃ ao cap, v = .slice ao n cap := by
  rcases h.2 with ⟨hv, h0⟩ | ⟨g, cap, cur, hv, _⟩
  · exact ⟨none, 0, by rw [hv, h0]⟩
  · exact ⟨_, cap, hv⟩

set_option maxRecDepth 100000 in
set_option maxHeartbeats 12800000 in
theorem rCrossings_is (s : Seg) (a : Act) (w : World) (hs : SegAt w s) (ha : ActAt w a) {E : Int} (hE : Hid (crsE s a = E)) :
    Calls Try.prog 16 #[s.val, a.val] w fun e w' => (∃ v, e = .returned (.tuple #[v, .int .i64 E]) ∧ w'.ownsRow w.heap.size 42 3 v (crsL (SLc s.gs a.ss) s a).length ((crsL (SLc s.gs a.ss) s a).flatMap crsCs)) ∧ w.grownBy w' none := by
  obtain ⟨i0, hi, hz0, hz1, hz2⟩ := info_parts info_crs
  have HI := Lib.hid hi; have HZ0 := Lib.hid hz0; have HZ1 := Lib.hid hz1; have HZ2 := Lib.hid hz2
  obtain ⟨i2, hi2, hy0, hy1, hy2⟩ := info_parts info_two
  have HI2 := Lib.hid hi2; have HY0 := Lib.hid hy0; have HY1 := Lib.hid hy1; have HY2 := Lib.hid hy2
  have HS := Lib.hid hs; have HA := Lib.hid ha
  clear hi hz0 hz1 hz2 hi2 hy0 hy1 hy2 hs ha
  obtain ⟨snm, sgo, sgc, gs⟩ := s
  obtain ⟨nm, sp, st, so, sc, ss, lo, lc, ls, to_, tc, ts⟩ := a
  simp only [Seg.val, Act.val] at *
  have B1 : Hid (((w.alloc (.cells #[.string snm, .slice sgo gs.length sgc] 24)).alloc (.cells #[.string nm, .int .i64 sp, .int .i64 st, .slice so ss.length sc, .slice lo ls.length lc, .slice to_ ts.length tc] 36)).heap[w.heap.size]? = some (.cells #[.string snm, .slice sgo gs.length sgc] 24 (0, 0))) := mblock_at (mheap_new w _) (World.grownBy_alloc _ _ none) (by simp)
  have B2 : Hid (((w.alloc (.cells #[.string snm, .slice sgo gs.length sgc] 24)).alloc (.cells #[.string nm, .int .i64 sp, .int .i64 st, .slice so ss.length sc, .slice lo ls.length lc, .slice to_ ts.length tc] 36)).heap[w.heap.size + 1]? = some (.cells #[.string nm, .int .i64 sp, .int .i64 st, .slice so ss.length sc, .slice lo ls.length lc, .slice to_ ts.length tc] 36 (0, 0))) := by
    have q := mheap_new (w.alloc (.cells #[.string snm, .slice sgo gs.length sgc] 24)) (.cells #[.string nm, .int .i64 sp, .int .i64 st, .slice so ss.length sc, .slice lo ls.length lc, .slice to_ ts.length tc] 36)
    rw [show (w.alloc (.cells #[.string snm, .slice sgo gs.length sgc] 24)).heap.size = w.heap.size + 1 from by simp] at q; exact q
  have G1 : Hid (w.grownBy ((w.alloc (.cells #[.string snm, .slice sgo gs.length sgc] 24)).alloc (.cells #[.string nm, .int .i64 sp, .int .i64 st, .slice so ss.length sc, .slice lo ls.length lc, .slice to_ ts.length tc] 36)) none) := grown_trans (World.grownBy_alloc _ _ _) (World.grownBy_alloc _ _ _)
  go_enter Try.func16, Try.ntmps16
  go_upto_region 1 with (fail)
  generalize ((w.alloc (.cells #[.string snm, .slice sgo gs.length sgc] 24)).alloc (.cells #[.string nm, .int .i64 sp, .int .i64 st, .slice so ss.length sc, .slice lo ls.length lc, .slice to_ ts.length tc] 36)) = w1 at *
  have s0 := mblock_cell B1.out 0 _ rfl
  have s1 := mblock_cell B1.out 1 _ rfl
  have y0 := mblock_cell B2.out 0 _ rfl
  have y1 := mblock_cell B2.out 1 _ rfl
  have y2 := mblock_cell B2.out 2 _ rfl
  have y3 := mblock_cell B2.out 3 _ rfl
  have y4 := mblock_cell B2.out 4 _ rfl
  have y5 := mblock_cell B2.out 5 _ rfl
  go_wp2_with fail
  refine (rcheckBoth_is ⟨snm, sgo, sgc, gs⟩ ⟨nm, sp, st, so, sc, ss, lo, lc, ls, to_, tc, ts⟩ _ (HS.out.grown G1.out) (HA.out.grown G1.out) hE).mono ?_; rintro e w3 ⟨rfl, hg3⟩
  have G3 := Lib.hid (grown_trans G1.out hg3)
  have B5 := Lib.hid (mblock_at B1.out hg3 (by simp)); have B6 := Lib.hid (mblock_at B2.out hg3 (by simp))
  clear hg3 G1 B1 B2 s0 s1 y0 y1 y2 y3 y4 y5
  by_cases d2 : E = 0
  · subst d2
    have hcr := hE.out
    unfold crsE at hcr
    simp only at hcr
    have hse : segE snm gs = 0 ∧ chkE ⟨nm, sp, st, so, sc, ss, lo, lc, ls, to_, tc, ts⟩ = 0 := by
      split at hcr
      · rename_i h; exact ⟨h, hcr⟩
      · rename_i h; exact absurd hcr h
    have HLE : Hid (crsL (SLc gs ss) ⟨snm, sgo, sgc, gs⟩ ⟨nm, sp, st, so, sc, ss, lo, lc, ls, to_, tc, ts⟩ = crsK (SLc gs ss) ss (ss.length - 1)) := by
      show _ = _
      unfold crsL; rw [if_pos hE.out]
    have HOK := Lib.hid (sok_of (chk_ok hse.2))
    have hsegs : (2 ≤ gs.length ∧ gs.length ≤ 50) ∧ gatesE gs = 0 := by
      have q := hse.1
      unfold segE at q
      split at q
      · split at q
        · rename_i h; exact ⟨h, q⟩
        · omega
      · omega
    have HGS : Hid (∀ g ∈ gs, gate1 g = 0) := gatesE_zero.1 hsegs.2
    have HGL : Hid (2 ≤ gs.length ∧ gs.length ≤ 50) := hsegs.1
    have hl0 : (ss.length : Int) ≤ 20000 := HOK.out.len
    have hln : ss.length ≤ 20000 := by omega
    have PLA : Hid (∀ j, j + 1 < ss.length → (SLc gs ss j).length ≤ 50) := fun j hj => by
      have := passK_len gs (smpPt (smpD ss j)) (smpPt (smpD ss (j + 1))) gs.length; have := HGL.out
      show (srtP _).length ≤ _
      rw [srtP_len]; omega
    clear hsegs hcr hse hl0
    have y3 := mblock_cell B6.out 3 _ rfl
    go_wp2_with fail
    clear y3
    go_loopw [7, 8] (fun lv iv wr => ∃ (j m : Nat) (v : Value), v = lv ∧ iv = .int .i64 m ∧ Hid (m = j + 1) ∧ Hid (j ≤ ss.length - 1) ∧ Hid (w.grownBy wr none) ∧ Hid (wr.ownsRow w.heap.size 42 3 v (crsK (SLc gs ss) ss j).length ((crsK (SLc gs ss) ss j).flatMap crsCs)) ∧ Hid (wr.heap[w.heap.size]? = some (.cells #[.string snm, .slice sgo gs.length sgc] 24 (0, 0))) ∧ Hid (wr.heap[w.heap.size + 1]? = some (.cells #[.string nm, .int .i64 sp, .int .i64 st, .slice so ss.length sc, .slice lo ls.length lc, .slice to_ ts.length tc] 36 (0, 0))) ∧ Hid (∀ r, v.ownBlock = some r → w.heap.size + 2 ≤ r)) (fun _ iv _ => ss.length - (intOf iv).toNat)
    case atStart => exact ⟨0, 1, _, rfl, rfl, rfl, Nat.zero_le _, G3.out, World.ownsRow_nil _ _ _ _, B5.out, B6.out, fun r e => by cases e⟩
    case round =>
      obtain ⟨j, m, v, rfl, rfl, hm, hj, hg, ho, hb1, hb2, hvb⟩ := hrel
      clear G3 B5 B6
      obtain ⟨wo, hwo⟩ : ∃ W : World, W = wr := ⟨_, rfl⟩
      subst hwo
      by_cases hlt : m < ss.length
      · obtain ⟨lao, lcap, hv⟩ := own_shape ho.out
        subst hv
        have hjm := hm.out
        have hjl : j < ss.length := by omega
        obtain ⟨b, off, hso, qs⟩ := smps_at1 (HA.out.hs.grown hg.out) (show 0 < ss.length by omega)
        simp only at hso
        subst hso
        obtain ⟨p0, p1, p2, p3, p4, p5, p6⟩ := qs j hjl
        obtain ⟨q0, q1, q2, q3, q4, q5, q6⟩ := qs m hlt
        rw [← smpD_at hjl] at p0 p1 p2 p3 p4 p5 p6
        rw [← smpD_at hlt] at q0 q1 q2 q3 q4 q5 q6
        have em : (m : Int) - 1 = (j : Int) := by omega
        have rk : IntKind.i64.wrap (j : Int) = (j : Int) := IntWalk.i64_in _ (by omega)
        have ml : (m : Int) < (ss.length : Int) := by omega
        have jl : (j : Int) < (ss.length : Int) := by omega
        have hup := HOK.out.up j (by omega)
        rw [← hjm] at hup
        have tp := (HOK.out.inn j hjl); have tq := (HOK.out.inn m hlt)
        have PP : Hid (onP (smpPt (smpD ss j))) := smp_plane HOK.out hjl
        have PQ : Hid (onP (smpPt (smpD ss m))) := smp_plane HOK.out hlt
        obtain ⟨FL, hFL⟩ : ∃ L, passK gs (smpPt (smpD ss j)) (smpPt (smpD ss m)) gs.length = L := ⟨_, rfl⟩
        have CRK : Hid (crsK (SLc gs ss) ss (j + 1) = crsK (SLc gs ss) ss j ++ (stI (psKey FL) FL.length).map (crF (smpD ss j) (smpD ss m) j FL)) := by
          show crsK (SLc gs ss) ss j ++ (srtP _).map _ = _
          rw [← hjm, hFL]
          unfold srtP
          rw [List.map_map]; rfl
        have TTT : Hid (0 ≤ (smpD ss j).t ∧ (smpD ss j).t < (smpD ss m).t ∧ (smpD ss m).t ≤ 1000000) := ⟨tp.1, hup, tq.2.1⟩
        have PIN : Hid (∀ x ∈ FL, PsgIn x) := fun x hx => passK_in HGS.out PP.out PQ.out gs.length (Nat.le_refl _) HGL.out.2 x (by rw [hFL]; exact hx)
        have PLN : Hid (FL.length ≤ 50) := by
          have := passK_len gs (smpPt (smpD ss j)) (smpPt (smpD ss m)) gs.length; have := HGL.out
          show _ ≤ _; rw [← hFL]; omega
        have CLEN : Hid ((crsK (SLc gs ss) ss j).length ≤ 1000000) := by
          have h1 := crsK_len PLA.out j hjl
          show _ ≤ _; omega
        have HM := Lib.hid hjm; have HML := Lib.hid hlt; have HG := Lib.hid hg.out; have HO := Lib.hid ho.out; have HB1 := Lib.hid hb1.out; have HB2 := Lib.hid hb2.out; have HVB := Lib.hid hvb.out; have HFL := Lib.hid hFL
        clear qs hup tp tq hm hj hg ho hb1 hb2 hvb hjm hFL
        generalize smpD ss j = P at *
        generalize smpD ss m = Q at *
        obtain ⟨pt, px, py, pz, pp, pq, ps⟩ := P
        obtain ⟨qt, qx, qy, qz, qp, qq, qs⟩ := Q
        simp only at p0 p1 p2 p3 p4 p5 p6 q0 q1 q2 q3 q4 q5 q6
        have TT2 : Hid (0 ≤ pt ∧ pt < qt ∧ qt ≤ 1000000) := TTT.out
        clear TTT
        generalize hC : crsK (SLc gs ss) ss j = C at *
        have HCC := Lib.hid hC
        clear hC
        obtain ⟨cn, hcn⟩ : ∃ n, C.length = n := ⟨_, rfl⟩
        have HCN := Lib.hid hcn
        rw [hcn] at HO CLEN HVB
        try rw [hcn]
        have cn1 : cn ≤ 1000000 := CLEN.out
        clear hcn
        have y3 := mblock_cell HB2.out 3 _ rfl
        go_upto_region 10 with (fail)
        go_cut [11, 12] (fun s10 s11 wx => ∃ X Y, s10 = .pointer (some ⟨X, 0, none⟩) ∧ s11 = .pointer (some ⟨Y, 0, none⟩) ∧ Hid (wx.heap[X]? = some (.cells #[.int .i64 pt, .int .i64 px, .int .i64 py, .int .i64 pz, .int .i64 pp, .int .i64 pq, .int .i64 ps] 79 (0, 0))) ∧ Hid (wx.heap[Y]? = some (.cells #[.int .i64 qt, .int .i64 qx, .int .i64 qy, .int .i64 qz, .int .i64 qp, .int .i64 qq, .int .i64 qs] 79 (0, 0))) ∧ Hid (wo.grownBy wx none) ∧ Hid (wo.heap.size ≤ X ∧ wo.heap.size ≤ Y))
        case first =>
          have gd : wo.grownBy wo.drew none := grown_drewN wo none 1
          refine region_late (lateK (fun V => wo.grownBy V none) []) (by kernel_rfl) gd (fun hC0 hS0 => ?_)
          have gd := Lib.hid gd
          generalize wo.drew = wd at *
          refine wpAnyS_take (i := 0) (oi := ?oi1) (v := .pointer (some ⟨w.heap.size + 1, 3, none⟩)) ?hi1 (by kernel_rfl) (by kernel_rfl) (by kernel_rfl) (lateK_iff (by rfl)) ?hq1 ?hy1 hC0 hS0 ?rest1
          case hi1 => simp only [List.getElem?_toArray, List.getElem?_cons_succ, List.getElem?_cons_zero, Option.some.injEq]; rfl
          case hq1 => exact fun _ _ _ h => h
          case hy1 =>
            refine Or.inl ⟨by kernel_rfl, fun V hV => ?_⟩
            clear hV
            go_simp
          intro hC1 hS1
          clear hC0 hS0
          try simp only [Go.Act.put, List.setIfInBounds_toArray, List.set_cons_zero, List.set_cons_succ]
          refine wpAnyS_take (i := 1) (oi := ?oi2) (v := .slice (some ⟨b, off, none⟩) ss.length sc) ?hi2 (by kernel_rfl) (by kernel_rfl) (by kernel_rfl) (lateK_iff (by rfl)) ?hq2 ?hy2 hC1 hS1 ?rest2
          case hi2 => simp only [List.getElem?_toArray, List.getElem?_cons_succ, List.getElem?_cons_zero, Option.some.injEq]; rfl
          case hq2 => exact fun _ _ _ h => h
          case hy2 =>
            refine Or.inl ⟨by kernel_rfl, fun V hV => ?_⟩
            have gV := lateK_g hV; have z9 := grown_cell gV y3; clear gV; clear hV
            go_simp
          intro hC2 hS2
          clear hC1 hS1
          try simp only [Go.Act.put, List.setIfInBounds_toArray, List.set_cons_zero, List.set_cons_succ]
          refine wpAnyS_take (i := 2) (oi := ?oi3) (v := .int .i64 (m : Int)) ?hi3 (by kernel_rfl) (by kernel_rfl) (by kernel_rfl) (lateK_iff (by rfl)) ?hq3 ?hy3 hC2 hS2 ?rest3
          case hi3 => simp only [List.getElem?_toArray, List.getElem?_cons_succ, List.getElem?_cons_zero, Option.some.injEq]; rfl
          case hq3 => exact fun _ _ _ h => h
          case hy3 =>
            refine Or.inl ⟨by kernel_rfl, fun V hV => ?_⟩
            clear hV
            go_simp
          intro hC3 hS3
          clear hC2 hS2
          try simp only [Go.Act.put, List.setIfInBounds_toArray, List.set_cons_zero, List.set_cons_succ]
          refine wpAnyS_take (i := 3) (oi := ?oi4) (v := .int .i64 (j : Int)) ?hi4 (by kernel_rfl) (by kernel_rfl) (by kernel_rfl) (lateK_iff (by rfl)) ?hq4 ?hy4 hC3 hS3 ?rest4
          case hi4 => simp only [List.getElem?_toArray, List.getElem?_cons_succ, List.getElem?_cons_zero, Option.some.injEq]; rfl
          case hq4 => exact fun _ _ _ h => h
          case hy4 =>
            refine Or.inl ⟨by kernel_rfl, fun V hV => ?_⟩
            clear hV
            go_simp
          intro hC4 hS4
          clear hC3 hS3
          try simp only [Go.Act.put, List.setIfInBounds_toArray, List.set_cons_zero, List.set_cons_succ]
          refine wpAnyS_take (i := 4) (oi := ?oi5) (v := .pointer (some ⟨b, off + j * 7, none⟩)) ?hi5 (by kernel_rfl) (by kernel_rfl) (by kernel_rfl) (lateK_iff (by rfl)) ?hq5 ?hy5 hC4 hS4 ?rest5
          case hi5 => simp only [List.getElem?_toArray, List.getElem?_cons_succ, List.getElem?_cons_zero, Option.some.injEq]; rfl
          case hq5 => exact fun _ _ _ h => h
          case hy5 =>
            refine Or.inl ⟨by kernel_rfl, fun V hV => ?_⟩
            clear hV
            go_simp
          intro hC5 hS5
          clear hC4 hS4
          try simp only [Go.Act.put, List.setIfInBounds_toArray, List.set_cons_zero, List.set_cons_succ]
          refine wpAnyS_take (i := 5) (oi := ?oi6) (v := .agg #[.int .i64 pt, .int .i64 px, .int .i64 py, .int .i64 pz, .int .i64 pp, .int .i64 pq, .int .i64 ps]) ?hi6 (by kernel_rfl) (by kernel_rfl) (by kernel_rfl) (lateK_iff (by rfl)) ?hq6 ?hy6 hC5 hS5 ?rest6
          case hi6 => simp only [List.getElem?_toArray, List.getElem?_cons_succ, List.getElem?_cons_zero, Option.some.injEq]; rfl
          case hq6 => exact fun _ _ _ h => h
          case hy6 =>
            refine Or.inl ⟨by kernel_rfl, fun V hV => ?_⟩
            have gV := lateK_g hV; have zz0 := grown_cell gV p0; have zz1 := grown_cell gV p1; have zz2 := grown_cell gV p2; have zz3 := grown_cell gV p3; have zz4 := grown_cell gV p4; have zz5 := grown_cell gV p5; have zz6 := grown_cell gV p6; clear gV; clear hV
            go_simp
          intro hC6 hS6
          clear hC5 hS5
          try simp only [Go.Act.put, List.setIfInBounds_toArray, List.set_cons_zero, List.set_cons_succ]
          refine wpAnyS_take (i := 6) (oi := ?oi7) (v := .pointer (some ⟨w.heap.size + 1, 3, none⟩)) ?hi7 (by kernel_rfl) (by kernel_rfl) (by kernel_rfl) (lateK_iff (by rfl)) ?hq7 ?hy7 hC6 hS6 ?rest7
          case hi7 => simp only [List.getElem?_toArray, List.getElem?_cons_succ, List.getElem?_cons_zero, Option.some.injEq]; rfl
          case hq7 => exact fun _ _ _ h => h
          case hy7 =>
            refine Or.inl ⟨by kernel_rfl, fun V hV => ?_⟩
            clear hV
            go_simp
          intro hC7 hS7
          clear hC6 hS6
          try simp only [Go.Act.put, List.setIfInBounds_toArray, List.set_cons_zero, List.set_cons_succ]
          refine wpAnyS_take (i := 7) (oi := ?oi8) (v := .slice (some ⟨b, off, none⟩) ss.length sc) ?hi8 (by kernel_rfl) (by kernel_rfl) (by kernel_rfl) (lateK_iff (by rfl)) ?hq8 ?hy8 hC7 hS7 ?rest8
          case hi8 => simp only [List.getElem?_toArray, List.getElem?_cons_succ, List.getElem?_cons_zero, Option.some.injEq]; rfl
          case hq8 => exact fun _ _ _ h => h
          case hy8 =>
            refine Or.inl ⟨by kernel_rfl, fun V hV => ?_⟩
            have gV := lateK_g hV; have z9 := grown_cell gV y3; clear gV; clear hV
            go_simp
          intro hC8 hS8
          clear hC7 hS7
          try simp only [Go.Act.put, List.setIfInBounds_toArray, List.set_cons_zero, List.set_cons_succ]
          refine wpAnyS_take (i := 8) (oi := ?oi9) (v := .int .i64 (m : Int)) ?hi9 (by kernel_rfl) (by kernel_rfl) (by kernel_rfl) (lateK_iff (by rfl)) ?hq9 ?hy9 hC8 hS8 ?rest9
          case hi9 => simp only [List.getElem?_toArray, List.getElem?_cons_succ, List.getElem?_cons_zero, Option.some.injEq]; rfl
          case hq9 => exact fun _ _ _ h => h
          case hy9 =>
            refine Or.inl ⟨by kernel_rfl, fun V hV => ?_⟩
            clear hV
            go_simp
          intro hC9 hS9
          clear hC8 hS8
          try simp only [Go.Act.put, List.setIfInBounds_toArray, List.set_cons_zero, List.set_cons_succ]
          refine wpAnyS_take (i := 9) (oi := ?oi10) (v := .pointer (some ⟨b, off + m * 7, none⟩)) ?hi10 (by kernel_rfl) (by kernel_rfl) (by kernel_rfl) (lateK_iff (by rfl)) ?hq10 ?hy10 hC9 hS9 ?rest10
          case hi10 => simp only [List.getElem?_toArray, List.getElem?_cons_succ, List.getElem?_cons_zero, Option.some.injEq]; rfl
          case hq10 => exact fun _ _ _ h => h
          case hy10 =>
            refine Or.inl ⟨by kernel_rfl, fun V hV => ?_⟩
            clear hV
            go_simp
          intro hC10 hS10
          clear hC9 hS9
          try simp only [Go.Act.put, List.setIfInBounds_toArray, List.set_cons_zero, List.set_cons_succ]
          refine wpAnyS_take (i := 10) (oi := ?oi11) (v := .agg #[.int .i64 qt, .int .i64 qx, .int .i64 qy, .int .i64 qz, .int .i64 qp, .int .i64 qq, .int .i64 qs]) ?hi11 (by kernel_rfl) (by kernel_rfl) (by kernel_rfl) (lateK_iff (by rfl)) ?hq11 ?hy11 hC10 hS10 ?rest11
          case hi11 => simp only [List.getElem?_toArray, List.getElem?_cons_succ, List.getElem?_cons_zero, Option.some.injEq]; rfl
          case hq11 => exact fun _ _ _ h => h
          case hy11 =>
            refine Or.inl ⟨by kernel_rfl, fun V hV => ?_⟩
            have gV := lateK_g hV; have zz0 := grown_cell gV q0; have zz1 := grown_cell gV q1; have zz2 := grown_cell gV q2; have zz3 := grown_cell gV q3; have zz4 := grown_cell gV q4; have zz5 := grown_cell gV q5; have zz6 := grown_cell gV q6; clear gV; clear hV
            go_simp
          intro hC11 hS11
          clear hC10 hS10
          try simp only [Go.Act.put, List.setIfInBounds_toArray, List.set_cons_zero, List.set_cons_succ]
          refine wpAnyS_ready (rs := [11, 12]) (by kernel_rfl) (by simp) ?_
          refine AllReadyS.cons rfl hC11 (fun K hK => ?b9) (AllReadyS.cons rfl hC11 (fun K hK => ?b10) AllReadyS.nil)
          case b9 =>
            go_simp
            obtain ⟨X, hX⟩ : ∃ B, wd.heap.size = B := ⟨_, rfl⟩
            obtain ⟨V1, hV1⟩ : ∃ V, wd.alloc (.cells #[.int .i64 0, .int .i64 0, .int .i64 0, .int .i64 0, .int .i64 0, .int .i64 0, .int .i64 0] 79) = V := ⟨_, rfl⟩
            have B1 : Hid (V1.heap[X]? = some (.cells #[.int .i64 0, .int .i64 0, .int .i64 0, .int .i64 0, .int .i64 0, .int .i64 0, .int .i64 0] 79 (0, 0))) := by show _; rw [← hV1, ← hX]; exact mheap_new _ _
            have G1 : Hid (wo.grownBy V1 none) := by show _; rw [← hV1]; exact grown_trans gd.out (World.grownBy_alloc _ _ _)
            have P1 : Hid (wo.heap.size ≤ X) := by have := gd.out.size; show _ ≤ _; omega
            rw [hV1, hX]
            clear hV1 hX
            refine hK.out _ _ G1.out (fun hCa1 hSa1 => ?_)
            clear hK K hC11 hS11
            try simp only [Go.Act.put, List.setIfInBounds_toArray, List.set_cons_zero, List.set_cons_succ]
            refine wpAnyS_ready (rs := [12]) (by kernel_rfl) (by simp) ?_
            refine AllReadyS.cons rfl hCa1 (fun K hK => ?_) AllReadyS.nil
            go_simp
            obtain ⟨Y, hY⟩ : ∃ B, V1.heap.size = B := ⟨_, rfl⟩
            obtain ⟨V2, hV2⟩ : ∃ V, V1.alloc (.cells #[.int .i64 0, .int .i64 0, .int .i64 0, .int .i64 0, .int .i64 0, .int .i64 0, .int .i64 0] 79) = V := ⟨_, rfl⟩
            have B2 : Hid (V2.heap[Y]? = some (.cells #[.int .i64 0, .int .i64 0, .int .i64 0, .int .i64 0, .int .i64 0, .int .i64 0, .int .i64 0] 79 (0, 0))) := by show _; rw [← hV2, ← hY]; exact mheap_new _ _
            have NE : Hid (X ≠ Y) := by have := lt_of_block B1.out; show _ ≠ _; omega
            replace B1 : Hid (V2.heap[X]? = some (.cells #[.int .i64 0, .int .i64 0, .int .i64 0, .int .i64 0, .int .i64 0, .int .i64 0, .int .i64 0] 79 (0, 0))) := by show _; rw [← hV2]; exact mblock_at (row := none) B1.out (World.grownBy_alloc _ _ _) (by simp)
            have P2 : Hid (wo.heap.size ≤ Y) := by have := G1.out.size; show _ ≤ _; omega
            replace G1 : Hid (wo.grownBy V2 none) := by show _; rw [← hV2]; exact grown_trans G1.out (World.grownBy_alloc _ _ _)
            rw [hV2, hY]
            clear hV2 hY
            refine hK.out _ _ G1.out (fun hCa2 hSa2 => ?_)
            clear hK K hCa1 hSa1
            try simp only [Go.Act.put, List.setIfInBounds_toArray, List.set_cons_zero, List.set_cons_succ]
            refine wpAnyS_ready (rs := [13]) (by kernel_rfl) (by simp) ?_
            refine AllReadyS.cons rfl hCa2 (fun K hK => ?_) AllReadyS.nil
            have z0 := mblock_cell B1.out 0 _ rfl
            have y0f := mblock_free (k := 0) B1.out
            have z1 := mblock_cell B1.out 1 _ rfl
            have y1f := mblock_free (k := 1) B1.out
            have z2 := mblock_cell B1.out 2 _ rfl
            have y2f := mblock_free (k := 2) B1.out
            have z3 := mblock_cell B1.out 3 _ rfl
            have y3f := mblock_free (k := 3) B1.out
            have z4 := mblock_cell B1.out 4 _ rfl
            have y4f := mblock_free (k := 4) B1.out
            have z5 := mblock_cell B1.out 5 _ rfl
            have y5f := mblock_free (k := 5) B1.out
            have z6 := mblock_cell B1.out 6 _ rfl
            have y6f := mblock_free (k := 6) B1.out
            go_simp
            obtain ⟨V3, hV⟩ : ∃ V, (((((((V2.setCell ⟨X, 0, none⟩ (.int .i64 pt)).setCell ⟨X, 1, none⟩ (.int .i64 px)).setCell ⟨X, 2, none⟩ (.int .i64 py)).setCell ⟨X, 3, none⟩ (.int .i64 pz)).setCell ⟨X, 4, none⟩ (.int .i64 pp)).setCell ⟨X, 5, none⟩ (.int .i64 pq)).setCell ⟨X, 6, none⟩ (.int .i64 ps)) = V := ⟨_, rfl⟩
            replace B1 : Hid (V3.heap[X]? = some (.cells #[.int .i64 pt, .int .i64 px, .int .i64 py, .int .i64 pz, .int .i64 pp, .int .i64 pq, .int .i64 ps] 79 (0, 0))) := by show _; rw [← hV]; exact (mblock_set (mblock_set (mblock_set (mblock_set (mblock_set (mblock_set (mblock_set B1.out _) _) _) _) _) _) _)
            replace B2 : Hid (V3.heap[Y]? = some (.cells #[.int .i64 0, .int .i64 0, .int .i64 0, .int .i64 0, .int .i64 0, .int .i64 0, .int .i64 0] 79 (0, 0))) := by show _; rw [← hV]; exact (mblock_far (mblock_far (mblock_far (mblock_far (mblock_far (mblock_far (mblock_far B2.out (Ne.symm NE.out) _ _) (Ne.symm NE.out) _ _) (Ne.symm NE.out) _ _) (Ne.symm NE.out) _ _) (Ne.symm NE.out) _ _) (Ne.symm NE.out) _ _) (Ne.symm NE.out) _ _)
            replace G1 : Hid (wo.grownBy V3 none) := by show _; rw [← hV]; exact (mgrown_set (mgrown_set (mgrown_set (mgrown_set (mgrown_set (mgrown_set (mgrown_set G1.out P1.out _ _) P1.out _ _) P1.out _ _) P1.out _ _) P1.out _ _) P1.out _ _) P1.out _ _)
            rw [hV]
            clear hV z0 y0f z1 y1f z2 y2f z3 y3f z4 y4f z5 y5f z6 y6f
            refine hK.out _ _ G1.out (fun hCa3 hSa3 => ?_)
            clear hK K hCa2 hSa2
            try simp only [Go.Act.put, List.setIfInBounds_toArray, List.set_cons_zero, List.set_cons_succ]
            refine wpAnyS_ready (rs := [14]) (by kernel_rfl) (by simp) ?_
            refine AllReadyS.cons rfl hCa3 (fun K hK => ?_) AllReadyS.nil
            have z0 := mblock_cell B2.out 0 _ rfl
            have y0f := mblock_free (k := 0) B2.out
            have z1 := mblock_cell B2.out 1 _ rfl
            have y1f := mblock_free (k := 1) B2.out
            have z2 := mblock_cell B2.out 2 _ rfl
            have y2f := mblock_free (k := 2) B2.out
            have z3 := mblock_cell B2.out 3 _ rfl
            have y3f := mblock_free (k := 3) B2.out
            have z4 := mblock_cell B2.out 4 _ rfl
            have y4f := mblock_free (k := 4) B2.out
            have z5 := mblock_cell B2.out 5 _ rfl
            have y5f := mblock_free (k := 5) B2.out
            have z6 := mblock_cell B2.out 6 _ rfl
            have y6f := mblock_free (k := 6) B2.out
            go_simp
            obtain ⟨V4, hV⟩ : ∃ V, (((((((V3.setCell ⟨Y, 0, none⟩ (.int .i64 qt)).setCell ⟨Y, 1, none⟩ (.int .i64 qx)).setCell ⟨Y, 2, none⟩ (.int .i64 qy)).setCell ⟨Y, 3, none⟩ (.int .i64 qz)).setCell ⟨Y, 4, none⟩ (.int .i64 qp)).setCell ⟨Y, 5, none⟩ (.int .i64 qq)).setCell ⟨Y, 6, none⟩ (.int .i64 qs)) = V := ⟨_, rfl⟩
            replace B2 : Hid (V4.heap[Y]? = some (.cells #[.int .i64 qt, .int .i64 qx, .int .i64 qy, .int .i64 qz, .int .i64 qp, .int .i64 qq, .int .i64 qs] 79 (0, 0))) := by show _; rw [← hV]; exact (mblock_set (mblock_set (mblock_set (mblock_set (mblock_set (mblock_set (mblock_set B2.out _) _) _) _) _) _) _)
            replace B1 : Hid (V4.heap[X]? = some (.cells #[.int .i64 pt, .int .i64 px, .int .i64 py, .int .i64 pz, .int .i64 pp, .int .i64 pq, .int .i64 ps] 79 (0, 0))) := by show _; rw [← hV]; exact (mblock_far (mblock_far (mblock_far (mblock_far (mblock_far (mblock_far (mblock_far B1.out NE.out _ _) NE.out _ _) NE.out _ _) NE.out _ _) NE.out _ _) NE.out _ _) NE.out _ _)
            replace G1 : Hid (wo.grownBy V4 none) := by show _; rw [← hV]; exact (mgrown_set (mgrown_set (mgrown_set (mgrown_set (mgrown_set (mgrown_set (mgrown_set G1.out P2.out _ _) P2.out _ _) P2.out _ _) P2.out _ _) P2.out _ _) P2.out _ _) P2.out _ _)
            rw [hV]
            clear hV z0 y0f z1 y1f z2 y2f z3 y3f z4 y4f z5 y5f z6 y6f
            refine hK.out _ _ G1.out (fun hCa4 hSa4 => ?_)
            clear hK K hCa3 hSa3
            try simp only [Go.Act.put, List.setIfInBounds_toArray, List.set_cons_zero, List.set_cons_succ]
            refine wpAnyS_done (by kernel_rfl) ?_ _
            clear hCa4 hSa4
            go_wp2_with fail
            go_meet
            exact ⟨X, Y, rfl, rfl, B1, B2, G1, ⟨P1.out, P2.out⟩⟩
          case b10 =>
            go_simp
            obtain ⟨Y, hY⟩ : ∃ B, wd.heap.size = B := ⟨_, rfl⟩
            obtain ⟨V1, hV1⟩ : ∃ V, wd.alloc (.cells #[.int .i64 0, .int .i64 0, .int .i64 0, .int .i64 0, .int .i64 0, .int .i64 0, .int .i64 0] 79) = V := ⟨_, rfl⟩
            have B1 : Hid (V1.heap[Y]? = some (.cells #[.int .i64 0, .int .i64 0, .int .i64 0, .int .i64 0, .int .i64 0, .int .i64 0, .int .i64 0] 79 (0, 0))) := by show _; rw [← hV1, ← hY]; exact mheap_new _ _
            have G1 : Hid (wo.grownBy V1 none) := by show _; rw [← hV1]; exact grown_trans gd.out (World.grownBy_alloc _ _ _)
            have P1 : Hid (wo.heap.size ≤ Y) := by have := gd.out.size; show _ ≤ _; omega
            rw [hV1, hY]
            clear hV1 hY
            refine hK.out _ _ G1.out (fun hCb1 hSb1 => ?_)
            clear hK K hC11 hS11
            try simp only [Go.Act.put, List.setIfInBounds_toArray, List.set_cons_zero, List.set_cons_succ]
            refine wpAnyS_ready (rs := [11]) (by kernel_rfl) (by simp) ?_
            refine AllReadyS.cons rfl hCb1 (fun K hK => ?_) AllReadyS.nil
            go_simp
            obtain ⟨X, hX⟩ : ∃ B, V1.heap.size = B := ⟨_, rfl⟩
            obtain ⟨V2, hV2⟩ : ∃ V, V1.alloc (.cells #[.int .i64 0, .int .i64 0, .int .i64 0, .int .i64 0, .int .i64 0, .int .i64 0, .int .i64 0] 79) = V := ⟨_, rfl⟩
            have B2 : Hid (V2.heap[X]? = some (.cells #[.int .i64 0, .int .i64 0, .int .i64 0, .int .i64 0, .int .i64 0, .int .i64 0, .int .i64 0] 79 (0, 0))) := by show _; rw [← hV2, ← hX]; exact mheap_new _ _
            have NE : Hid (Y ≠ X) := by have := lt_of_block B1.out; show _ ≠ _; omega
            replace B1 : Hid (V2.heap[Y]? = some (.cells #[.int .i64 0, .int .i64 0, .int .i64 0, .int .i64 0, .int .i64 0, .int .i64 0, .int .i64 0] 79 (0, 0))) := by show _; rw [← hV2]; exact mblock_at (row := none) B1.out (World.grownBy_alloc _ _ _) (by simp)
            have P2 : Hid (wo.heap.size ≤ X) := by have := G1.out.size; show _ ≤ _; omega
            replace G1 : Hid (wo.grownBy V2 none) := by show _; rw [← hV2]; exact grown_trans G1.out (World.grownBy_alloc _ _ _)
            rw [hV2, hX]
            clear hV2 hX
            refine hK.out _ _ G1.out (fun hCb2 hSb2 => ?_)
            clear hK K hCb1 hSb1
            try simp only [Go.Act.put, List.setIfInBounds_toArray, List.set_cons_zero, List.set_cons_succ]
            refine wpAnyS_ready (rs := [13]) (by kernel_rfl) (by simp) ?_
            refine AllReadyS.cons rfl hCb2 (fun K hK => ?_) AllReadyS.nil
            have z0 := mblock_cell B2.out 0 _ rfl
            have y0f := mblock_free (k := 0) B2.out
            have z1 := mblock_cell B2.out 1 _ rfl
            have y1f := mblock_free (k := 1) B2.out
            have z2 := mblock_cell B2.out 2 _ rfl
            have y2f := mblock_free (k := 2) B2.out
            have z3 := mblock_cell B2.out 3 _ rfl
            have y3f := mblock_free (k := 3) B2.out
            have z4 := mblock_cell B2.out 4 _ rfl
            have y4f := mblock_free (k := 4) B2.out
            have z5 := mblock_cell B2.out 5 _ rfl
            have y5f := mblock_free (k := 5) B2.out
            have z6 := mblock_cell B2.out 6 _ rfl
            have y6f := mblock_free (k := 6) B2.out
            go_simp
            obtain ⟨V3, hV⟩ : ∃ V, (((((((V2.setCell ⟨X, 0, none⟩ (.int .i64 pt)).setCell ⟨X, 1, none⟩ (.int .i64 px)).setCell ⟨X, 2, none⟩ (.int .i64 py)).setCell ⟨X, 3, none⟩ (.int .i64 pz)).setCell ⟨X, 4, none⟩ (.int .i64 pp)).setCell ⟨X, 5, none⟩ (.int .i64 pq)).setCell ⟨X, 6, none⟩ (.int .i64 ps)) = V := ⟨_, rfl⟩
            replace B2 : Hid (V3.heap[X]? = some (.cells #[.int .i64 pt, .int .i64 px, .int .i64 py, .int .i64 pz, .int .i64 pp, .int .i64 pq, .int .i64 ps] 79 (0, 0))) := by show _; rw [← hV]; exact (mblock_set (mblock_set (mblock_set (mblock_set (mblock_set (mblock_set (mblock_set B2.out _) _) _) _) _) _) _)
            replace B1 : Hid (V3.heap[Y]? = some (.cells #[.int .i64 0, .int .i64 0, .int .i64 0, .int .i64 0, .int .i64 0, .int .i64 0, .int .i64 0] 79 (0, 0))) := by show _; rw [← hV]; exact (mblock_far (mblock_far (mblock_far (mblock_far (mblock_far (mblock_far (mblock_far B1.out NE.out _ _) NE.out _ _) NE.out _ _) NE.out _ _) NE.out _ _) NE.out _ _) NE.out _ _)
            replace G1 : Hid (wo.grownBy V3 none) := by show _; rw [← hV]; exact (mgrown_set (mgrown_set (mgrown_set (mgrown_set (mgrown_set (mgrown_set (mgrown_set G1.out P2.out _ _) P2.out _ _) P2.out _ _) P2.out _ _) P2.out _ _) P2.out _ _) P2.out _ _)
            rw [hV]
            clear hV z0 y0f z1 y1f z2 y2f z3 y3f z4 y4f z5 y5f z6 y6f
            refine hK.out _ _ G1.out (fun hCb3 hSb3 => ?_)
            clear hK K hCb2 hSb2
            try simp only [Go.Act.put, List.setIfInBounds_toArray, List.set_cons_zero, List.set_cons_succ]
            refine wpAnyS_ready (rs := [14]) (by kernel_rfl) (by simp) ?_
            refine AllReadyS.cons rfl hCb3 (fun K hK => ?_) AllReadyS.nil
            have z0 := mblock_cell B1.out 0 _ rfl
            have y0f := mblock_free (k := 0) B1.out
            have z1 := mblock_cell B1.out 1 _ rfl
            have y1f := mblock_free (k := 1) B1.out
            have z2 := mblock_cell B1.out 2 _ rfl
            have y2f := mblock_free (k := 2) B1.out
            have z3 := mblock_cell B1.out 3 _ rfl
            have y3f := mblock_free (k := 3) B1.out
            have z4 := mblock_cell B1.out 4 _ rfl
            have y4f := mblock_free (k := 4) B1.out
            have z5 := mblock_cell B1.out 5 _ rfl
            have y5f := mblock_free (k := 5) B1.out
            have z6 := mblock_cell B1.out 6 _ rfl
            have y6f := mblock_free (k := 6) B1.out
            go_simp
            obtain ⟨V4, hV⟩ : ∃ V, (((((((V3.setCell ⟨Y, 0, none⟩ (.int .i64 qt)).setCell ⟨Y, 1, none⟩ (.int .i64 qx)).setCell ⟨Y, 2, none⟩ (.int .i64 qy)).setCell ⟨Y, 3, none⟩ (.int .i64 qz)).setCell ⟨Y, 4, none⟩ (.int .i64 qp)).setCell ⟨Y, 5, none⟩ (.int .i64 qq)).setCell ⟨Y, 6, none⟩ (.int .i64 qs)) = V := ⟨_, rfl⟩
            replace B1 : Hid (V4.heap[Y]? = some (.cells #[.int .i64 qt, .int .i64 qx, .int .i64 qy, .int .i64 qz, .int .i64 qp, .int .i64 qq, .int .i64 qs] 79 (0, 0))) := by show _; rw [← hV]; exact (mblock_set (mblock_set (mblock_set (mblock_set (mblock_set (mblock_set (mblock_set B1.out _) _) _) _) _) _) _)
            replace B2 : Hid (V4.heap[X]? = some (.cells #[.int .i64 pt, .int .i64 px, .int .i64 py, .int .i64 pz, .int .i64 pp, .int .i64 pq, .int .i64 ps] 79 (0, 0))) := by show _; rw [← hV]; exact (mblock_far (mblock_far (mblock_far (mblock_far (mblock_far (mblock_far (mblock_far B2.out (Ne.symm NE.out) _ _) (Ne.symm NE.out) _ _) (Ne.symm NE.out) _ _) (Ne.symm NE.out) _ _) (Ne.symm NE.out) _ _) (Ne.symm NE.out) _ _) (Ne.symm NE.out) _ _)
            replace G1 : Hid (wo.grownBy V4 none) := by show _; rw [← hV]; exact (mgrown_set (mgrown_set (mgrown_set (mgrown_set (mgrown_set (mgrown_set (mgrown_set G1.out P1.out _ _) P1.out _ _) P1.out _ _) P1.out _ _) P1.out _ _) P1.out _ _) P1.out _ _)
            rw [hV]
            clear hV z0 y0f z1 y1f z2 y2f z3 y3f z4 y4f z5 y5f z6 y6f
            refine hK.out _ _ G1.out (fun hCb4 hSb4 => ?_)
            clear hK K hCb3 hSb3
            try simp only [Go.Act.put, List.setIfInBounds_toArray, List.set_cons_zero, List.set_cons_succ]
            refine wpAnyS_done (by kernel_rfl) ?_ _
            clear hCb4 hSb4
            go_wp2_with fail
            go_meet
            exact ⟨X, Y, rfl, rfl, B2, B1, G1, ⟨P2.out, P1.out⟩⟩
        case rest =>
          obtain ⟨X, Y, rfl, rfl, BX, BY, hGX, XY⟩ := hcut
          clear p0 p1 p2 p3 p4 p5 p6 q0 q1 q2 q3 q4 q5 q6 y3 jl em rk
          have HG2 := Lib.hid (grown_trans HG.out hGX.out)
          have VB2 : Hid (∀ r, (Value.slice lao cn lcap).ownBlock = some r → w.heap.size + 2 ≤ r ∧ r ≠ X ∧ r ≠ Y) := fun r e => by
            have h1 := HVB.out r e; have h2 := (HO.out.lt r e).2; have h3 := XY.out
            exact ⟨h1, by omega, by omega⟩
          have HO2 := Lib.hid (HO.out.kept hGX.out (Classical.em _))
          have HB3 := Lib.hid (mblock_at HB1.out hGX.out (by simp)); have HB4 := Lib.hid (mblock_at HB2.out hGX.out (by simp))
          clear hGX HG HO HB1 HB2 HVB
          obtain ⟨wk, hwk⟩ : ∃ W : World, W = wc := ⟨_, rfl⟩
          subst hwk
          have s1 := mblock_cell HB3.out 1 _ rfl
          obtain ⟨gb, gof, hgo, qg0⟩ := gates_at (HS.out.hg.grown HG2.out) (by show 0 < gs.length; have := HGL.out; omega)
          simp only at hgo
          subst hgo
          clear qg0
          go_wp2_with fail
          clear s1
          go_loopw [7, 10, 49] (fun lv pv xv wr => ∃ (k N : Nat) (u t : Value), u = lv ∧ t = pv ∧ xv = .int .i64 k ∧ k ≤ gs.length ∧ Hid ((passK gs (smpPt ⟨pt, px, py, pz, pp, pq, ps⟩) (smpPt ⟨qt, qx, qy, qz, qp, qq, qs⟩) k).length = N) ∧ Hid (w.grownBy wr none) ∧ Hid (wr.ownsRow w.heap.size 42 3 u (cn + N) ((C ++ (stI (psKey FL) N).map (crF ⟨pt, px, py, pz, pp, pq, ps⟩ ⟨qt, qx, qy, qz, qp, qq, qs⟩ j FL)).flatMap crsCs)) ∧ Hid (wr.ownsRow w.heap.size 91 2 t N (((stI (psKey FL) N).map (psD FL)).flatMap prCs)) ∧ Hid (wr.heap[w.heap.size]? = some (.cells #[.string snm, .slice (some ⟨gb, gof, none⟩) gs.length sgc] 24 (0, 0))) ∧ Hid (wr.heap[w.heap.size + 1]? = some (.cells #[.string nm, .int .i64 sp, .int .i64 st, .slice (some ⟨b, off, none⟩) ss.length sc, .slice lo ls.length lc, .slice to_ ts.length tc] 36 (0, 0))) ∧ Hid (wr.heap[X]? = some (.cells #[.int .i64 pt, .int .i64 px, .int .i64 py, .int .i64 pz, .int .i64 pp, .int .i64 pq, .int .i64 ps] 79 (0, 0))) ∧ Hid (wr.heap[Y]? = some (.cells #[.int .i64 qt, .int .i64 qx, .int .i64 qy, .int .i64 qz, .int .i64 qp, .int .i64 qq, .int .i64 qs] 79 (0, 0))) ∧ Hid (∀ r, u.ownBlock = some r → w.heap.size + 2 ≤ r ∧ r ≠ X ∧ r ≠ Y) ∧ Hid (∀ r, t.ownBlock = some r → w.heap.size + 2 ≤ r ∧ r ≠ X ∧ r ≠ Y) ∧ Hid (∀ r, u.ownBlock = some r → t.ownBlock ≠ some r)) (fun _ _ xv _ => gs.length - (intOf xv).toNat)
          case atStart =>
            refine ⟨0, 0, _, _, rfl, rfl, rfl, Nat.zero_le _, rfl, HG2.out, ?_, World.ownsRow_nil _ _ _ _, HB3.out, HB4.out, BX.out, BY.out, VB2.out, (by show ∀ r, _ → _; intro r e; cases e), (by show ∀ r, _ → _; intro r e h; cases h)⟩
            show World.ownsRow _ _ _ _ _ _ _
            simpa [stI] using HO2.out
          case round =>
            clear HG2 HO2 HB3 HB4 BX BY VB2
            obtain ⟨k, N, u, t, rfl, rfl, rfl, hk, hN, hg, hol, hop, hb1, hb2, hbx, hby, hub, htb, hut⟩ := hrel
            obtain ⟨wg, hwg⟩ : ∃ W : World, W = wr := ⟨_, rfl⟩
            subst hwg
            by_cases hkl : k < gs.length
            · obtain ⟨lao, lcap, hu⟩ := own_shape hol.out
              obtain ⟨pao, pcap, ht⟩ := own_shape hop.out
              subst hu; subst ht
              obtain ⟨gb2, gof2, hgo2, qg⟩ := gates_at (HS.out.hg.grown hg.out) (by show 0 < gs.length; omega)
              simp only at hgo2 qg
              obtain ⟨rfl, rfl⟩ : gb = gb2 ∧ gof = gof2 := by injection hgo2 with h; injection h with h1 h2 _; exact ⟨h1, h2⟩
              clear hgo2
              obtain ⟨c0, c1, c2, c3⟩ := qg k hkl
              have hgm := HGS.out _ (List.getElem_mem hkl)
              rw [← gtD_at hkl] at c0 c1 c2 c3 hgm
              have hin := gate1_in hgm
              have HKL := Lib.hid hkl; have HNN := Lib.hid hN.out; have HGR := Lib.hid hg.out; have HOL := Lib.hid hol.out; have HOP := Lib.hid hop.out
              have HB1 := Lib.hid hb1.out; have HB2 := Lib.hid hb2.out; have HBX := Lib.hid hbx.out; have HBY := Lib.hid hby.out; have HUB := Lib.hid hub.out; have HTB := Lib.hid htb.out; have HUT := Lib.hid hut.out
              have hk0 : (k : Int) < (gs.length : Int) := by omega
              have k0 : k ≤ 50 := by have := HGL.out; omega
              have PGET : Hid (crosB (gtD gs k) (smpPt ⟨pt, px, py, pz, pp, pq, ps⟩) (smpPt ⟨qt, qx, qy, qz, qp, qq, qs⟩) = true → psD FL N = ⟨k, -sideV (gtD gs k).A (gtD gs k).B (smpPt ⟨pt, px, py, pz, pp, pq, ps⟩), sideV (gtD gs k).A (gtD gs k).B (smpPt ⟨qt, qx, qy, qz, qp, qq, qs⟩) - sideV (gtD gs k).A (gtD gs k).B (smpPt ⟨pt, px, py, pz, pp, pq, ps⟩)⟩ ∧ N < FL.length ∧ (passK gs (smpPt ⟨pt, px, py, pz, pp, pq, ps⟩) (smpPt ⟨qt, qx, qy, qz, qp, qq, qs⟩) (k + 1)).length = N + 1) := fun hc => by
                have q := passK_get HKL.out hc
                rw [HFL.out, HNN.out] at q; exact q
              have PSKIP : Hid (crosB (gtD gs k) (smpPt ⟨pt, px, py, pz, pp, pq, ps⟩) (smpPt ⟨qt, qx, qy, qz, qp, qq, qs⟩) = false → (passK gs (smpPt ⟨pt, px, py, pz, pp, pq, ps⟩) (smpPt ⟨qt, qx, qy, qz, qp, qq, qs⟩) (k + 1)).length = N) := fun hc => by
                rw [passK_skip hc]; exact HNN.out
              clear qg hgm hN hg hol hop hb1 hb2 hbx hby hub htb hut
              generalize gtD gs k = gt at *
              obtain ⟨ax, ay, bx, by_⟩ := gt
              simp only at c0 c1 c2 c3 hin
              have PA : Hid (onP (Gt.A ⟨ax, ay, bx, by_⟩)) := hin.1
              have PB : Hid (onP (Gt.B ⟨ax, ay, bx, by_⟩)) := hin.2
              clear hin
              obtain ⟨cb, hcb⟩ : ∃ b, crosB ⟨ax, ay, bx, by_⟩ (smpPt ⟨pt, px, py, pz, pp, pq, ps⟩) (smpPt ⟨qt, qx, qy, qz, qp, qq, qs⟩) = b := ⟨_, rfl⟩
              have HCB := Lib.hid hcb
              rw [hcb] at PGET PSKIP
              clear hcb
              go_upto_region 14 with (fail)
              clear c0 c1 c2 c3
              have b9 := mheap_new wg (.cells #[.int .i64 ax, .int .i64 ay, .int .i64 bx, .int .i64 by_] 73)
              have gA := World.grownBy_alloc wg (.cells #[.int .i64 ax, .int .i64 ay, .int .i64 bx, .int .i64 by_] 73) none
              have bx1 := mblock_at HBX.out gA (by simp); have by1 := mblock_at HBY.out gA (by simp)
              have HB3 := Lib.hid (mblock_at HB1.out gA (by simp)); have HB4 := Lib.hid (mblock_at HB2.out gA (by simp))
              have HOL2 := Lib.hid (HOL.out.kept gA (Classical.em _)); have HOP2 := Lib.hid (HOP.out.kept gA (Classical.em _))
              have HG2 := Lib.hid (grown_trans HGR.out gA)
              generalize wg.alloc (.cells #[.int .i64 ax, .int .i64 ay, .int .i64 bx, .int .i64 by_] 73) = w2 at *
              obtain ⟨gx, hgx⟩ : ∃ n, wg.heap.size = n := ⟨_, rfl⟩
              rw [hgx] at b9
              try rw [hgx]
              clear hgx gA HGR HOL HOP HB1 HB2 HBX HBY
              have z0 := mblock_cell b9 0 _ rfl; have z1 := mblock_cell b9 1 _ rfl; have z2 := mblock_cell b9 2 _ rfl; have z3 := mblock_cell b9 3 _ rfl
              have u0 := mblock_cell bx1 0 _ rfl; have t0 := mblock_cell by1 0 _ rfl
              have u1 := mblock_cell bx1 1 _ rfl; have t1 := mblock_cell by1 1 _ rfl
              have u2 := mblock_cell bx1 2 _ rfl; have t2 := mblock_cell by1 2 _ rfl
              have u3 := mblock_cell bx1 3 _ rfl; have t3 := mblock_cell by1 3 _ rfl
              have u4 := mblock_cell bx1 4 _ rfl; have t4 := mblock_cell by1 4 _ rfl
              have u5 := mblock_cell bx1 5 _ rfl; have t5 := mblock_cell by1 5 _ rfl
              have u6 := mblock_cell bx1 6 _ rfl; have t6 := mblock_cell by1 6 _ rfl
              have B9 := Lib.hid b9; have BX := Lib.hid bx1; have BY := Lib.hid by1
              clear b9 bx1 by1
              have gW : w2.grownBy w2.drew none := grown_drewN w2 none 1
              refine region_late (lateK (fun V => w2.grownBy V none) []) (by kernel_rfl) gW (fun hCe0 hSe0 => ?_)
              generalize w2.drew = wd at *
              refine wpAnyS_take (i := 0) (oi := ?oie1) (v := .agg #[.int .i64 ax, .int .i64 ay, .int .i64 bx, .int .i64 by_]) ?hie1 (by kernel_rfl) (by kernel_rfl) (by kernel_rfl) (lateK_iff (by rfl)) ?hqe1 ?hye1 hCe0 hSe0 ?reste1
              case hie1 => simp only [List.getElem?_toArray, List.getElem?_cons_succ, List.getElem?_cons_zero, Option.some.injEq]; rfl
              case hqe1 => exact fun _ _ _ h => h
              case hye1 =>
                refine Or.inl ⟨by kernel_rfl, fun V hV => ?_⟩
                have gV := lateK_g hV; have zz0 := grown_cell gV z0; have zz1 := grown_cell gV z1; have zz2 := grown_cell gV z2; have zz3 := grown_cell gV z3; clear gV; clear hV
                go_simp
              intro hCe1 hSe1
              clear hCe0 hSe0
              try simp only [Go.Act.put, List.setIfInBounds_toArray, List.set_cons_zero, List.set_cons_succ]
              refine wpAnyS_take (i := 1) (oi := ?oie2) (v := .agg #[.int .i64 pt, .int .i64 px, .int .i64 py, .int .i64 pz, .int .i64 pp, .int .i64 pq, .int .i64 ps]) ?hie2 (by kernel_rfl) (by kernel_rfl) (by kernel_rfl) (lateK_iff (by rfl)) ?hqe2 ?hye2 hCe1 hSe1 ?reste2
              case hie2 => simp only [List.getElem?_toArray, List.getElem?_cons_succ, List.getElem?_cons_zero, Option.some.injEq]; rfl
              case hqe2 => exact fun _ _ _ h => h
              case hye2 =>
                refine Or.inl ⟨by kernel_rfl, fun V hV => ?_⟩
                have gV := lateK_g hV; have zz0 := grown_cell gV u0; have zz1 := grown_cell gV u1; have zz2 := grown_cell gV u2; have zz3 := grown_cell gV u3; have zz4 := grown_cell gV u4; have zz5 := grown_cell gV u5; have zz6 := grown_cell gV u6; clear gV; clear hV
                go_simp
              intro hCe2 hSe2
              clear hCe1 hSe1
              try simp only [Go.Act.put, List.setIfInBounds_toArray, List.set_cons_zero, List.set_cons_succ]
              refine wpAnyS_take (i := 3) (oi := ?oie3) (v := .agg #[.int .i64 qt, .int .i64 qx, .int .i64 qy, .int .i64 qz, .int .i64 qp, .int .i64 qq, .int .i64 qs]) ?hie3 (by kernel_rfl) (by kernel_rfl) (by kernel_rfl) (lateK_iff (by rfl)) ?hqe3 ?hye3 hCe2 hSe2 ?reste3
              case hie3 => simp only [List.getElem?_toArray, List.getElem?_cons_succ, List.getElem?_cons_zero, Option.some.injEq]; rfl
              case hqe3 => exact fun _ _ _ h => h
              case hye3 =>
                refine Or.inl ⟨by kernel_rfl, fun V hV => ?_⟩
                have gV := lateK_g hV; have zz0 := grown_cell gV t0; have zz1 := grown_cell gV t1; have zz2 := grown_cell gV t2; have zz3 := grown_cell gV t3; have zz4 := grown_cell gV t4; have zz5 := grown_cell gV t5; have zz6 := grown_cell gV t6; clear gV; clear hV
                go_simp
              intro hCe3 hSe3
              clear hCe2 hSe2
              try simp only [Go.Act.put, List.setIfInBounds_toArray, List.set_cons_zero, List.set_cons_succ]
              refine wpAnyS_ready (rs := [2]) (by kernel_rfl) (by simp) ?_
              refine AllReadyS.cons rfl hCe3 (fun K hK => ?_) AllReadyS.nil
              go_simp
              refine (point_is ⟨pt, px, py, pz, pp, pq, ps⟩ _).mono ?_; rintro e w4 ⟨rfl, hg4⟩
              refine hK.out _ _ (grown_trans gW hg4) (fun hCe4 hSe4 => ?_)
              clear hK hCe3 hSe3 K
              try simp only [Go.Act.put, List.setIfInBounds_toArray, List.set_cons_zero, List.set_cons_succ]
              refine wpAnyS_ready (rs := [4]) (by kernel_rfl) (by simp) ?_
              refine AllReadyS.cons rfl hCe4 (fun K hK => ?_) AllReadyS.nil
              go_simp
              refine (point_is ⟨qt, qx, qy, qz, qp, qq, qs⟩ _).mono ?_; rintro e w5 ⟨rfl, hg5⟩
              refine hK.out _ _ (grown_trans (grown_trans gW hg4) hg5) (fun hCe5 hSe5 => ?_)
              clear hK hCe4 hSe4 K
              try simp only [Go.Act.put, List.setIfInBounds_toArray, List.set_cons_zero, List.set_cons_succ]
              refine wpAnyS_ready (rs := [5]) (by kernel_rfl) (by simp) ?_
              refine AllReadyS.cons rfl hCe5 (fun K hK => ?_) AllReadyS.nil
              go_simp
              refine (rcrosses_is ⟨ax, ay, bx, by_⟩ ⟨px, py⟩ ⟨qx, qy⟩ PA.out PB.out PP.out PQ.out _ HCB).mono ?_; rintro e w6 ⟨rfl, hg6⟩
              refine hK.out _ _ (grown_trans (grown_trans (grown_trans gW hg4) hg5) hg6) (fun hCe6 hSe6 => ?_)
              clear hK hCe5 hSe5 K
              try simp only [Go.Act.put, List.setIfInBounds_toArray, List.set_cons_zero, List.set_cons_succ]
              refine wpAnyS_take (i := 6) (oi := ?oie7) (v := .bool (!cb)) ?hie7 (by kernel_rfl) (by kernel_rfl) (by kernel_rfl) (lateK_iff (by rfl)) ?hqe7 ?hye7 hCe6 hSe6 ?reste7
              case hie7 => simp only [List.getElem?_toArray, List.getElem?_cons_succ, List.getElem?_cons_zero, Option.some.injEq]; rfl
              case hqe7 => exact fun _ _ _ h => h
              case hye7 =>
                refine Or.inl ⟨by kernel_rfl, fun V hV => ?_⟩
                clear hV
                go_simp
              intro hCe7 hSe7
              clear hCe6 hSe6
              try simp only [Go.Act.put, List.setIfInBounds_toArray, List.set_cons_zero, List.set_cons_succ]
              refine wpAnyS_done (by kernel_rfl) ?_ _
              clear hCe7 hSe7
              have g6 := grown_trans (grown_trans (grown_trans gW hg4) hg5) hg6
              have HG3 := Lib.hid (grown_trans HG2.out g6)
              have HOL3 := Lib.hid (HOL2.out.kept g6 (Classical.em _)); have HOP3 := Lib.hid (HOP2.out.kept g6 (Classical.em _))
              have HB5 := Lib.hid (mblock_at HB3.out g6 (by simp)); have HB6 := Lib.hid (mblock_at HB4.out g6 (by simp))
              have BX2 := Lib.hid (mblock_at BX.out g6 (by simp)); have BY2 := Lib.hid (mblock_at BY.out g6 (by simp)); have B92 := Lib.hid (mblock_at B9.out g6 (by simp))
              clear g6 gW hg4 hg5 hg6 HG2 HOL2 HOP2 HB3 HB4 BX BY B9 u0 t0 u1 t1 u2 t2 u3 t3 u4 t4 u5 t5 u6 t6 z0 z1 z2 z3
              cases cb with
              | false =>
                go_wp2_with fail
                go_roundw
                case rel => exact ⟨k + 1, N, _, _, rfl, rfl, by go_num, HKL.out, PSKIP.out rfl, HG3.out, HOL3.out, HOP3.out, HB5.out, HB6.out, BX2.out, BY2.out, HUB.out, HTB.out, HUT.out⟩
                case measure => simp [intOf]; omega
              | true =>
                obtain ⟨hpg, hNF, hNk⟩ := PGET.out rfl
                obtain ⟨su, hsu⟩ : ∃ n, sideV (Gt.A ⟨ax, ay, bx, by_⟩) (Gt.B ⟨ax, ay, bx, by_⟩) (smpPt ⟨pt, px, py, pz, pp, pq, ps⟩) = n := ⟨_, rfl⟩
                obtain ⟨sv, hsv⟩ : ∃ n, sideV (Gt.A ⟨ax, ay, bx, by_⟩) (Gt.B ⟨ax, ay, bx, by_⟩) (smpPt ⟨qt, qx, qy, qz, qp, qq, qs⟩) = n := ⟨_, rfl⟩
                rw [hsu, hsv] at hpg
                have HSU := Lib.hid hsu; have HSV := Lib.hid hsv
                have PN : Hid (psD FL N = ⟨k, -su, sv - su⟩) := hpg
                have NF : Hid (N < FL.length) := hNF
                have NK := Lib.hid hNk
                have XIN : Hid (PsgIn ⟨k, -su, sv - su⟩) := by have := psD_in PIN.out N; rw [hpg] at this; exact this
                have n50 : N ≤ 50 := by have := PLN.out; omega
                clear hpg hNF hNk hsu hsv PGET PSKIP HCB
                have z0 := mblock_cell B92.out 0 _ rfl; have z1 := mblock_cell B92.out 1 _ rfl; have z2 := mblock_cell B92.out 2 _ rfl; have z3 := mblock_cell B92.out 3 _ rfl
                have u0 := mblock_cell BX2.out 0 _ rfl; have t0 := mblock_cell BY2.out 0 _ rfl
                have u1 := mblock_cell BX2.out 1 _ rfl; have t1 := mblock_cell BY2.out 1 _ rfl
                have u2 := mblock_cell BX2.out 2 _ rfl; have t2 := mblock_cell BY2.out 2 _ rfl
                have u3 := mblock_cell BX2.out 3 _ rfl; have t3 := mblock_cell BY2.out 3 _ rfl
                have u4 := mblock_cell BX2.out 4 _ rfl; have t4 := mblock_cell BY2.out 4 _ rfl
                have u5 := mblock_cell BX2.out 5 _ rfl; have t5 := mblock_cell BY2.out 5 _ rfl
                have u6 := mblock_cell BX2.out 6 _ rfl; have t6 := mblock_cell BY2.out 6 _ rfl
                obtain ⟨w7, hw7⟩ : ∃ W : World, W = w6 := ⟨_, rfl⟩
                subst hw7
                go_upto_region 15 with (fail)
                have gW : w7.grownBy w7.drew none := grown_drewN w7 none 1
                refine region_late (lateK (fun V => w7.grownBy V none) []) (by kernel_rfl) gW (fun hCf0 hSf0 => ?_)
                generalize w7.drew = wd at *
                refine wpAnyS_take (i := 0) (oi := ?oif1) (v := .pointer (some ⟨gx, 0, none⟩)) ?hif1 (by kernel_rfl) (by kernel_rfl) (by kernel_rfl) (lateK_iff (by rfl)) ?hqf1 ?hyf1 hCf0 hSf0 ?restf1
                case hif1 => simp only [List.getElem?_toArray, List.getElem?_cons_succ, List.getElem?_cons_zero, Option.some.injEq]; rfl
                case hqf1 => exact fun _ _ _ h => h
                case hyf1 =>
                  refine Or.inl ⟨by kernel_rfl, fun V hV => ?_⟩
                  clear hV
                  go_simp
                intro hCf1 hSf1
                clear hCf0 hSf0
                try simp only [Go.Act.put, List.setIfInBounds_toArray, List.set_cons_zero, List.set_cons_succ]
                refine wpAnyS_take (i := 1) (oi := ?oif2) (v := .agg #[.int .i64 ax, .int .i64 ay]) ?hif2 (by kernel_rfl) (by kernel_rfl) (by kernel_rfl) (lateK_iff (by rfl)) ?hqf2 ?hyf2 hCf1 hSf1 ?restf2
                case hif2 => simp only [List.getElem?_toArray, List.getElem?_cons_succ, List.getElem?_cons_zero, Option.some.injEq]; rfl
                case hqf2 => exact fun _ _ _ h => h
                case hyf2 =>
                  refine Or.inl ⟨by kernel_rfl, fun V hV => ?_⟩
                  have gV := lateK_g hV; have zz0 := grown_cell gV z0; have zz1 := grown_cell gV z1; clear gV; clear hV
                  go_simp
                intro hCf2 hSf2
                clear hCf1 hSf1
                try simp only [Go.Act.put, List.setIfInBounds_toArray, List.set_cons_zero, List.set_cons_succ]
                refine wpAnyS_take (i := 2) (oi := ?oif3) (v := .pointer (some ⟨gx, 2, none⟩)) ?hif3 (by kernel_rfl) (by kernel_rfl) (by kernel_rfl) (lateK_iff (by rfl)) ?hqf3 ?hyf3 hCf2 hSf2 ?restf3
                case hif3 => simp only [List.getElem?_toArray, List.getElem?_cons_succ, List.getElem?_cons_zero, Option.some.injEq]; rfl
                case hqf3 => exact fun _ _ _ h => h
                case hyf3 =>
                  refine Or.inl ⟨by kernel_rfl, fun V hV => ?_⟩
                  clear hV
                  go_simp
                intro hCf3 hSf3
                clear hCf2 hSf2
                try simp only [Go.Act.put, List.setIfInBounds_toArray, List.set_cons_zero, List.set_cons_succ]
                refine wpAnyS_take (i := 3) (oi := ?oif4) (v := .agg #[.int .i64 bx, .int .i64 by_]) ?hif4 (by kernel_rfl) (by kernel_rfl) (by kernel_rfl) (lateK_iff (by rfl)) ?hqf4 ?hyf4 hCf3 hSf3 ?restf4
                case hif4 => simp only [List.getElem?_toArray, List.getElem?_cons_succ, List.getElem?_cons_zero, Option.some.injEq]; rfl
                case hqf4 => exact fun _ _ _ h => h
                case hyf4 =>
                  refine Or.inl ⟨by kernel_rfl, fun V hV => ?_⟩
                  have gV := lateK_g hV; have zz2 := grown_cell gV z2; have zz3 := grown_cell gV z3; clear gV; clear hV
                  go_simp
                intro hCf4 hSf4
                clear hCf3 hSf3
                try simp only [Go.Act.put, List.setIfInBounds_toArray, List.set_cons_zero, List.set_cons_succ]
                refine wpAnyS_take (i := 4) (oi := ?oif5) (v := .agg #[.int .i64 pt, .int .i64 px, .int .i64 py, .int .i64 pz, .int .i64 pp, .int .i64 pq, .int .i64 ps]) ?hif5 (by kernel_rfl) (by kernel_rfl) (by kernel_rfl) (lateK_iff (by rfl)) ?hqf5 ?hyf5 hCf4 hSf4 ?restf5
                case hif5 => simp only [List.getElem?_toArray, List.getElem?_cons_succ, List.getElem?_cons_zero, Option.some.injEq]; rfl
                case hqf5 => exact fun _ _ _ h => h
                case hyf5 =>
                  refine Or.inl ⟨by kernel_rfl, fun V hV => ?_⟩
                  have gV := lateK_g hV; have zz0 := grown_cell gV u0; have zz1 := grown_cell gV u1; have zz2 := grown_cell gV u2; have zz3 := grown_cell gV u3; have zz4 := grown_cell gV u4; have zz5 := grown_cell gV u5; have zz6 := grown_cell gV u6; clear gV; clear hV
                  go_simp
                intro hCf5 hSf5
                clear hCf4 hSf4
                try simp only [Go.Act.put, List.setIfInBounds_toArray, List.set_cons_zero, List.set_cons_succ]
                refine wpAnyS_take (i := 7) (oi := ?oif6) (v := .pointer (some ⟨gx, 0, none⟩)) ?hif6 (by kernel_rfl) (by kernel_rfl) (by kernel_rfl) (lateK_iff (by rfl)) ?hqf6 ?hyf6 hCf5 hSf5 ?restf6
                case hif6 => simp only [List.getElem?_toArray, List.getElem?_cons_succ, List.getElem?_cons_zero, Option.some.injEq]; rfl
                case hqf6 => exact fun _ _ _ h => h
                case hyf6 =>
                  refine Or.inl ⟨by kernel_rfl, fun V hV => ?_⟩
                  clear hV
                  go_simp
                intro hCf6 hSf6
                clear hCf5 hSf5
                try simp only [Go.Act.put, List.setIfInBounds_toArray, List.set_cons_zero, List.set_cons_succ]
                refine wpAnyS_take (i := 8) (oi := ?oif7) (v := .agg #[.int .i64 ax, .int .i64 ay]) ?hif7 (by kernel_rfl) (by kernel_rfl) (by kernel_rfl) (lateK_iff (by rfl)) ?hqf7 ?hyf7 hCf6 hSf6 ?restf7
                case hif7 => simp only [List.getElem?_toArray, List.getElem?_cons_succ, List.getElem?_cons_zero, Option.some.injEq]; rfl
                case hqf7 => exact fun _ _ _ h => h
                case hyf7 =>
                  refine Or.inl ⟨by kernel_rfl, fun V hV => ?_⟩
                  have gV := lateK_g hV; have zz0 := grown_cell gV z0; have zz1 := grown_cell gV z1; clear gV; clear hV
                  go_simp
                intro hCf7 hSf7
                clear hCf6 hSf6
                try simp only [Go.Act.put, List.setIfInBounds_toArray, List.set_cons_zero, List.set_cons_succ]
                refine wpAnyS_take (i := 9) (oi := ?oif8) (v := .pointer (some ⟨gx, 2, none⟩)) ?hif8 (by kernel_rfl) (by kernel_rfl) (by kernel_rfl) (lateK_iff (by rfl)) ?hqf8 ?hyf8 hCf7 hSf7 ?restf8
                case hif8 => simp only [List.getElem?_toArray, List.getElem?_cons_succ, List.getElem?_cons_zero, Option.some.injEq]; rfl
                case hqf8 => exact fun _ _ _ h => h
                case hyf8 =>
                  refine Or.inl ⟨by kernel_rfl, fun V hV => ?_⟩
                  clear hV
                  go_simp
                intro hCf8 hSf8
                clear hCf7 hSf7
                try simp only [Go.Act.put, List.setIfInBounds_toArray, List.set_cons_zero, List.set_cons_succ]
                refine wpAnyS_take (i := 10) (oi := ?oif9) (v := .agg #[.int .i64 bx, .int .i64 by_]) ?hif9 (by kernel_rfl) (by kernel_rfl) (by kernel_rfl) (lateK_iff (by rfl)) ?hqf9 ?hyf9 hCf8 hSf8 ?restf9
                case hif9 => simp only [List.getElem?_toArray, List.getElem?_cons_succ, List.getElem?_cons_zero, Option.some.injEq]; rfl
                case hqf9 => exact fun _ _ _ h => h
                case hyf9 =>
                  refine Or.inl ⟨by kernel_rfl, fun V hV => ?_⟩
                  have gV := lateK_g hV; have zz2 := grown_cell gV z2; have zz3 := grown_cell gV z3; clear gV; clear hV
                  go_simp
                intro hCf9 hSf9
                clear hCf8 hSf8
                try simp only [Go.Act.put, List.setIfInBounds_toArray, List.set_cons_zero, List.set_cons_succ]
                refine wpAnyS_take (i := 11) (oi := ?oif10) (v := .agg #[.int .i64 qt, .int .i64 qx, .int .i64 qy, .int .i64 qz, .int .i64 qp, .int .i64 qq, .int .i64 qs]) ?hif10 (by kernel_rfl) (by kernel_rfl) (by kernel_rfl) (lateK_iff (by rfl)) ?hqf10 ?hyf10 hCf9 hSf9 ?restf10
                case hif10 => simp only [List.getElem?_toArray, List.getElem?_cons_succ, List.getElem?_cons_zero, Option.some.injEq]; rfl
                case hqf10 => exact fun _ _ _ h => h
                case hyf10 =>
                  refine Or.inl ⟨by kernel_rfl, fun V hV => ?_⟩
                  have gV := lateK_g hV; have zz0 := grown_cell gV t0; have zz1 := grown_cell gV t1; have zz2 := grown_cell gV t2; have zz3 := grown_cell gV t3; have zz4 := grown_cell gV t4; have zz5 := grown_cell gV t5; have zz6 := grown_cell gV t6; clear gV; clear hV
                  go_simp
                intro hCf10 hSf10
                clear hCf9 hSf9
                try simp only [Go.Act.put, List.setIfInBounds_toArray, List.set_cons_zero, List.set_cons_succ]
                refine wpAnyS_ready (rs := [5]) (by kernel_rfl) (by simp) ?_
                refine AllReadyS.cons rfl hCf10 (fun K hK => ?_) AllReadyS.nil
                go_simp
                refine (point_is ⟨pt, px, py, pz, pp, pq, ps⟩ _).mono ?_; rintro e w8 ⟨rfl, hg8⟩
                refine hK.out _ _ (grown_trans gW hg8) (fun hCf11 hSf11 => ?_)
                clear hK hCf10 hSf10 K
                try simp only [Go.Act.put, List.setIfInBounds_toArray, List.set_cons_zero, List.set_cons_succ]
                refine wpAnyS_ready (rs := [6]) (by kernel_rfl) (by simp) ?_
                refine AllReadyS.cons rfl hCf11 (fun K hK => ?_) AllReadyS.nil
                go_simp
                refine (rside_is ⟨ax, ay⟩ ⟨bx, by_⟩ ⟨px, py⟩ PA.out PB.out PP.out _ HSU).mono ?_; rintro e w9 ⟨rfl, hg9⟩
                refine hK.out _ _ (grown_trans (grown_trans gW hg8) hg9) (fun hCf12 hSf12 => ?_)
                clear hK hCf11 hSf11 K
                try simp only [Go.Act.put, List.setIfInBounds_toArray, List.set_cons_zero, List.set_cons_succ]
                have g9 := grown_trans (grown_trans gW hg8) hg9
                refine wpAnyS_ready (rs := [12]) (by kernel_rfl) (by simp) ?_
                refine AllReadyS.cons rfl hCf12 (fun K hK => ?_) AllReadyS.nil
                go_simp
                refine (point_is ⟨qt, qx, qy, qz, qp, qq, qs⟩ _).mono ?_; rintro e w10 ⟨rfl, hg10⟩
                refine hK.out _ _ (grown_trans g9 hg10) (fun hCf13 hSf13 => ?_)
                clear hK hCf12 hSf12 K
                try simp only [Go.Act.put, List.setIfInBounds_toArray, List.set_cons_zero, List.set_cons_succ]
                refine wpAnyS_ready (rs := [13]) (by kernel_rfl) (by simp) ?_
                refine AllReadyS.cons rfl hCf13 (fun K hK => ?_) AllReadyS.nil
                go_simp
                refine (rside_is ⟨ax, ay⟩ ⟨bx, by_⟩ ⟨qx, qy⟩ PA.out PB.out PQ.out _ HSV).mono ?_; rintro e w11 ⟨rfl, hg11⟩
                refine hK.out _ _ (grown_trans (grown_trans g9 hg10) hg11) (fun hCf14 hSf14 => ?_)
                clear hK hCf13 hSf13 K
                try simp only [Go.Act.put, List.setIfInBounds_toArray, List.set_cons_zero, List.set_cons_succ]
                refine wpAnyS_take (i := 14) (oi := ?oif15) (v := .int .i64 su) ?hif15 (by kernel_rfl) (by kernel_rfl) (by kernel_rfl) (lateK_iff (by rfl)) ?hqf15 ?hyf15 hCf14 hSf14 ?restf15
                case hif15 => simp only [List.getElem?_toArray, List.getElem?_cons_succ, List.getElem?_cons_zero, Option.some.injEq]; rfl
                case hqf15 => exact fun _ _ _ h => h
                case hyf15 =>
                  refine Or.inl ⟨by kernel_rfl, fun V hV => ?_⟩
                  clear hV
                  go_simp
                intro hCf15 hSf15
                clear hCf14 hSf14
                try simp only [Go.Act.put, List.setIfInBounds_toArray, List.set_cons_zero, List.set_cons_succ]
                refine wpAnyS_take (i := 15) (oi := ?oif16) (v := .int .i64 sv) ?hif16 (by kernel_rfl) (by kernel_rfl) (by kernel_rfl) (lateK_iff (by rfl)) ?hqf16 ?hyf16 hCf15 hSf15 ?restf16
                case hif16 => simp only [List.getElem?_toArray, List.getElem?_cons_succ, List.getElem?_cons_zero, Option.some.injEq]; rfl
                case hqf16 => exact fun _ _ _ h => h
                case hyf16 =>
                  refine Or.inl ⟨by kernel_rfl, fun V hV => ?_⟩
                  clear hV
                  go_simp
                intro hCf16 hSf16
                clear hCf15 hSf15
                try simp only [Go.Act.put, List.setIfInBounds_toArray, List.set_cons_zero, List.set_cons_succ]
                refine wpAnyS_done (by kernel_rfl) ?_ _
                clear hCf16 hSf16
                have g11 := grown_trans (grown_trans g9 hg10) hg11
                have HG4 := Lib.hid (grown_trans HG3.out g11)
                have HOL4 := Lib.hid (HOL3.out.kept g11 (Classical.em _)); have HOP4 := Lib.hid (HOP3.out.kept g11 (Classical.em _))
                have HB7 := Lib.hid (mblock_at HB5.out g11 (by simp)); have HB8 := Lib.hid (mblock_at HB6.out g11 (by simp))
                have BX3 := Lib.hid (mblock_at BX2.out g11 (by simp)); have BY3 := Lib.hid (mblock_at BY2.out g11 (by simp))
                clear g11 g9 gW hg8 hg9 hg10 hg11 HG3 HOL3 HOP3 HB5 HB6 BX2 BY2 B92 u0 t0 u1 t1 u2 t2 u3 t3 u4 t4 u5 t5 u6 t6 z0 z1 z2 z3 HSU HSV PA PB
                obtain ⟨prt, hprt⟩ : ∃ n, -su = n := ⟨_, rfl⟩
                obtain ⟨whl, hwhl⟩ : ∃ n, sv - su = n := ⟨_, rfl⟩
                rw [hprt, hwhl] at PN XIN
                have xin := XIN.out
                obtain ⟨_, _, x0, x1, x2⟩ := xin
                simp only at x0 x1 x2
                have rp1 : IntKind.i64.wrap (-su) = prt := by rw [hprt]; exact IntWalk.i64_in _ (by omega)
                have rp2 : IntKind.i64.wrap (sv - su) = whl := by rw [hwhl]; exact IntWalk.i64_in _ (by omega)
                obtain ⟨dt, hdt⟩ : ∃ d, qt - pt = d := ⟨_, rfl⟩
                obtain ⟨num, hnum⟩ : ∃ d, 1000 * dt = d := ⟨_, rfl⟩
                obtain ⟨p1k, hp1k⟩ : ∃ d, 1000 * pt = d := ⟨_, rfl⟩
                have tt := TT2.out
                have rd : IntKind.i64.wrap (qt - pt) = dt := by rw [hdt]; exact IntWalk.i64_in _ (by omega)
                have rn : IntKind.i64.wrap (1000 * dt) = num := by rw [hnum]; exact IntWalk.i64_in _ (by omega)
                have rp : IntKind.i64.wrap (1000 * pt) = p1k := by rw [hp1k]; exact IntWalk.i64_in _ (by omega)
                have NB : Hid (0 ≤ num ∧ num ≤ 1000000000) := by show _ ∧ _; omega
                have PB1 : Hid (0 ≤ p1k ∧ p1k ≤ 1000000000) := by show _ ∧ _; omega
                have PW : Hid ((1 ≤ prt ∧ prt ≤ whl) ∧ whl ≤ 160000000000000000) := ⟨⟨x0, x1⟩, x2⟩
                have CV : Hid (crF ⟨pt, px, py, pz, pp, pq, ps⟩ ⟨qt, qx, qy, qz, qp, qq, qs⟩ j FL N = ⟨k, j, p1k + (scaleV prt num whl 1).1⟩) := by
                  show crs1 _ _ _ (psD FL N) = _
                  rw [PN.out, ← hp1k, ← hnum, ← hdt]; rfl
                clear hdt hnum hp1k tt hprt hwhl x0 x1 x2
                have u0 := mblock_cell BX3.out 0 _ rfl; have t0 := mblock_cell BY3.out 0 _ rfl
                go_wp2_with fail
                refine (refScale_any prt num whl 1 (by have := PW.out; omega) (by have := PW.out; omega) (by have := NB.out; omega) (by have := NB.out; omega) (by have := PW.out; omega) (by have := PW.out; omega) _).mono ?_; rintro e w14 ⟨rfl, hg14⟩
                obtain ⟨sc1, hsc⟩ : ∃ n, (scaleV prt num whl 1).1 = n := ⟨_, rfl⟩
                obtain ⟨se, hse⟩ : ∃ n, (scaleV prt num whl 1).2 = n := ⟨_, rfl⟩
                have sb := scale_down PW.out.1.1 PW.out.1.2 NB.out.1 NB.out.2
                rw [hsc] at sb
                have HSC := Lib.hid hsc
                rw [hsc, hse]
                obtain ⟨at1, hat1⟩ : ∃ n, p1k + sc1 = n := ⟨_, rfl⟩
                have ra : IntKind.i64.wrap (p1k + sc1) = at1 := by rw [hat1]; exact IntWalk.i64_in _ (by have := PB1.out; have := NB.out; omega)
                have CV2 : Hid (crF ⟨pt, px, py, pz, pp, pq, ps⟩ ⟨qt, qx, qy, qz, qp, qq, qs⟩ j FL N = ⟨k, j, at1⟩) := by show _ = _; rw [CV.out, HSC.out, hat1]
                have HG5 := Lib.hid (grown_trans HG4.out hg14)
                have HOL5 := Lib.hid (HOL4.out.kept hg14 (Classical.em _)); have HOP5 := Lib.hid (HOP4.out.kept hg14 (Classical.em _))
                have HB9 := Lib.hid (mblock_at HB7.out hg14 (by simp)); have HB10 := Lib.hid (mblock_at HB8.out hg14 (by simp))
                have BX4 := Lib.hid (mblock_at BX3.out hg14 (by simp)); have BY4 := Lib.hid (mblock_at BY3.out hg14 (by simp))
                clear u0 t0 hsc hse sb hat1 HG4 HOL4 HOP4 HB7 HB8 BX3 BY3 hg14 rd rn CV
                have u0 : w14.cell? ⟨X, 0, none⟩ = some (.int .i64 pt) := mblock_cell BX4.out 0 _ rfl
                have em : (m : Int) - 1 = (j : Int) := by have := HM.out; omega
                have rk : IntKind.i64.wrap (j : Int) = (j : Int) := IntWalk.i64_in _ (by have := HM.out; have := HML.out; omega)
                have hi := HI.out; have hz0 := HZ0.out; have hz1 := HZ1.out; have hz2 := HZ2.out
                have HSZ : Hid (w.heap.size ≤ w14.heap.size) := HG5.out.size
                go_upto_region 18 with (at_builtin; refine wpList_append_own_at _ rfl _ _ 37 rfl w.heap.size 42 i0 (.agg #[.int .i64 0, .int .i64 0, .int .i64 0]) 3 24 Try.underlying37 hi hz0 hz1 hz2 rfl (by decide) (.slice lao (cn + N) lcap) (cn + N) _ rfl (HOL5.out.alloc _) ⟨w14.heap.size, 0, none⟩ 1 1 [.int .i64 k, .int .i64 j, .int .i64 at1] rfl rfl (World.news_of_block (cs := #[.int .i64 k, .int .i64 j, .int .i64 at1]) (t := 42) (fr := (0, 0)) (heap_alloc_new w14 _)) (by simp [Value.oneCell']) (by unfold maxLen; omega) (by omega) (by have := HSZ.out; simp; omega) ?_; intro v' w15 hown' hgrow' _ hat')
                have gA := World.grownBy_alloc w14 (.cells #[.int .i64 k, .int .i64 j, .int .i64 at1] 42) none
                have ne : ∀ (b : Nat), (∀ r, (Value.slice lao (cn + N) lcap).ownBlock = some r → r ≠ b) → some b ≠ (Value.slice lao (cn + N) lcap).ownBlock := fun b h e => h b e.symm rfl
                have VB3 : Hid (∀ r, v'.ownBlock = some r → w.heap.size + 2 ≤ r ∧ r ≠ X ∧ r ≠ Y) := fun r e => by
                  rcases hat' with h | h
                  · rw [h] at e; exact HUB.out r e
                  · rw [h] at e
                    injection e with e
                    have h1 := lt_of_block HB10.out; have h2 := lt_of_block BX4.out; have h3 := lt_of_block BY4.out
                    simp at e
                    exact ⟨by omega, by omega, by omega⟩
                have VT3 : Hid (∀ r, v'.ownBlock = some r → (Value.slice pao N pcap).ownBlock ≠ some r) := fun r e h0 => by
                  rcases hat' with h | h
                  · rw [h] at e; exact HUT.out r e h0
                  · rw [h] at e
                    injection e with e
                    have := (HOP5.out.lt r h0).2
                    simp at e
                    omega
                have G6 := Lib.hid (mgrown_row (grown_trans HG5.out gA) hgrow' (fun r e => by have := (HUB.out r e).1; omega))
                have C1 := Lib.hid (mblock_at (mblock_at HB9.out gA (by simp)) hgrow' (ne _ fun r e => by have := (HUB.out r e).1; omega))
                have C2 := Lib.hid (mblock_at (mblock_at HB10.out gA (by simp)) hgrow' (ne _ fun r e => by have := (HUB.out r e).1; omega))
                have C3 := Lib.hid (mblock_at (mblock_at BX4.out gA (by simp)) hgrow' (ne _ fun r e => (HUB.out r e).2.1))
                have C4 := Lib.hid (mblock_at (mblock_at BY4.out gA (by simp)) hgrow' (ne _ fun r e => (HUB.out r e).2.2))
                have OP6 := Lib.hid ((HOP5.out.kept gA (Classical.em _)).kept hgrow' (ob_ne fun r e => HUT.out r e))
                have OL6 := Lib.hid hown'
                clear hown' hgrow' hat' gA ne hi hz0 hz1 hz2 u0 HOL5 HOP5 HB9 HB10 BX4 BY4 HG5
                have hi := HI2.out; have hz0 := HY0.out; have hz1 := HY1.out; have hz2 := HY2.out
                have HSZ2 : Hid (w.heap.size ≤ w15.heap.size) := G6.out.size
                go_upto_region 19 with (at_builtin; refine wpList_append_own_at _ rfl _ _ 88 rfl w.heap.size 91 i2 (.agg #[.int .i64 0, .int .i64 0]) 2 16 Try.underlying88 hi hz0 hz1 hz2 rfl (by decide) (.slice pao N pcap) N _ rfl (OP6.out.alloc _) ⟨w15.heap.size, 0, none⟩ 1 1 [.int .i64 prt, .int .i64 whl] rfl rfl (World.news_of_block (cs := #[.int .i64 prt, .int .i64 whl]) (t := 91) (fr := (0, 0)) (heap_alloc_new w15 _)) (by simp [Value.oneCell']) (by unfold maxLen; omega) (by omega) (by have := HSZ2.out; simp; omega) ?_; intro p' w16 hown' hgrow' _ hat')
                have gA := World.grownBy_alloc w15 (.cells #[.int .i64 prt, .int .i64 whl] 91) none
                have ne : ∀ (b : Nat), (∀ r, (Value.slice pao N pcap).ownBlock = some r → r ≠ b) → some b ≠ (Value.slice pao N pcap).ownBlock := fun b h e => h b e.symm rfl
                have TB3 : Hid (∀ r, p'.ownBlock = some r → w.heap.size + 2 ≤ r ∧ r ≠ X ∧ r ≠ Y) := fun r e => by
                  rcases hat' with h | h
                  · rw [h] at e; exact HTB.out r e
                  · rw [h] at e
                    injection e with e
                    have h1 := lt_of_block C2.out; have h2 := lt_of_block C3.out; have h3 := lt_of_block C4.out
                    simp at e
                    exact ⟨by omega, by omega, by omega⟩
                have UT3 : Hid (∀ r, v'.ownBlock = some r → p'.ownBlock ≠ some r) := fun r e h0 => by
                  rcases hat' with h | h
                  · rw [h] at h0; exact VT3.out r e h0
                  · rw [h] at h0
                    injection h0 with h0
                    have := (OL6.out.lt r e).2
                    simp at h0
                    omega
                have G7 := Lib.hid (mgrown_row (grown_trans G6.out gA) hgrow' (fun r e => by have := (HTB.out r e).1; omega))
                have D1 := Lib.hid (mblock_at (mblock_at C1.out gA (by simp)) hgrow' (ne _ fun r e => by have := (HTB.out r e).1; omega))
                have D2 := Lib.hid (mblock_at (mblock_at C2.out gA (by simp)) hgrow' (ne _ fun r e => by have := (HTB.out r e).1; omega))
                have D3 := Lib.hid (mblock_at (mblock_at C3.out gA (by simp)) hgrow' (ne _ fun r e => (HTB.out r e).2.1))
                have D4 := Lib.hid (mblock_at (mblock_at C4.out gA (by simp)) hgrow' (ne _ fun r e => (HTB.out r e).2.2))
                have OL7 := Lib.hid ((OL6.out.kept gA (Classical.em _)).kept hgrow' (ob_ne fun r e h => VT3.out r h e))
                have OP7 := Lib.hid hown'
                clear hown' hgrow' hat' gA ne hi hz0 hz1 hz2 OL6 OP6 C1 C2 C3 C4 G6 HUB HTB HUT
                obtain ⟨gl, cl, hvl⟩ := own_open OL7.out (by omega)
                obtain ⟨gp, cp, hvp⟩ := own_open OP7.out (by omega)
                subst hvl; subst hvp
                have FAR : Hid ((w.heap.size + 2 ≤ gl ∧ gl ≠ X ∧ gl ≠ Y) ∧ (w.heap.size + 2 ≤ gp ∧ gp ≠ X ∧ gp ≠ Y) ∧ gl ≠ gp) := ⟨VB3.out gl rfl, TB3.out gp rfl, fun e => UT3.out gl rfl (by rw [e]; rfl)⟩
                clear VB3 TB3 UT3 VT3
                obtain ⟨is, his⟩ : ∃ l, stI (psKey FL) N = l := ⟨_, rfl⟩
                have HIS : Hid (Sti (psKey FL) N is) := by show Sti _ _ _; rw [← his]; exact stI_is _ _
                rw [his] at OL7 OP7
                clear his
                obtain ⟨ln, hln⟩ : ∃ n, cn + N + 1 = n := ⟨_, rfl⟩
                obtain ⟨pn, hpn⟩ : ∃ n, N + 1 = n := ⟨_, rfl⟩
                have OL8 : Hid (w16.ownsRow w.heap.size 42 3 (.slice (some ⟨gl, 0, none⟩) ln cl) ln ((C ++ (insAt is N N).map (crF ⟨pt, px, py, pz, pp, pq, ps⟩ ⟨qt, qx, qy, qz, qp, qq, qs⟩ j FL)).flatMap crsCs)) := by
                  have q := OL7.out
                  have e1 : insAt is N N = is ++ [N] := by have := insAt_end is N; rw [HIS.out.len] at this; exact this
                  show World.ownsRow _ _ _ _ _ _ _
                  rw [e1, List.map_append, List.map_cons, List.map_nil, CV2.out, ← List.append_assoc, mflat_snoc, ← hln]; exact q
                have OP8 : Hid (w16.ownsRow w.heap.size 91 2 (.slice (some ⟨gp, 0, none⟩) pn cp) pn (((insAt is N N).map (psD FL)).flatMap prCs)) := by
                  have q := OP7.out
                  have e1 : insAt is N N = is ++ [N] := by have := insAt_end is N; rw [HIS.out.len] at this; exact this
                  show World.ownsRow _ _ _ _ _ _ _
                  rw [e1, List.map_append, List.map_cons, List.map_nil, PN.out, mflat_snoc, ← hpn]; exact q
                rw [hln, hpn]
                have HLN : Hid (cn + N + 1 = ln ∧ N + 1 = pn) := ⟨hln, hpn⟩
                have ln1 : (ln : Int) - 1 = ((cn + N : Nat) : Int) := by omega
                have ln2 : ln ≤ 1000051 := by omega
                have pn2 : pn ≤ 51 := by omega
                clear OL7 OP7 hln hpn
                go_wp2_with fail
                clear ln1
                go_loopw [19] (fun kv wr => ∃ (q kk : Nat), kv = .int .i64 kk ∧ Hid (kk = cn + q) ∧ q ≤ N ∧ Hid (w.grownBy wr none) ∧ Hid (wr.ownsRow w.heap.size 42 3 (.slice (some ⟨gl, 0, none⟩) ln cl) ln ((C ++ (insAt is N q).map (crF ⟨pt, px, py, pz, pp, pq, ps⟩ ⟨qt, qx, qy, qz, qp, qq, qs⟩ j FL)).flatMap crsCs)) ∧ Hid (wr.ownsRow w.heap.size 91 2 (.slice (some ⟨gp, 0, none⟩) pn cp) pn (((insAt is N q).map (psD FL)).flatMap prCs)) ∧ Hid (∀ i, q ≤ i → i < N → psKey FL (is.getD i 0) < psKey FL N) ∧ Hid (wr.heap[w.heap.size]? = some (.cells #[.string snm, .slice (some ⟨gb, gof, none⟩) gs.length sgc] 24 (0, 0))) ∧ Hid (wr.heap[w.heap.size + 1]? = some (.cells #[.string nm, .int .i64 sp, .int .i64 st, .slice (some ⟨b, off, none⟩) ss.length sc, .slice lo ls.length lc, .slice to_ ts.length tc] 36 (0, 0))) ∧ Hid (wr.heap[X]? = some (.cells #[.int .i64 pt, .int .i64 px, .int .i64 py, .int .i64 pz, .int .i64 pp, .int .i64 pq, .int .i64 ps] 79 (0, 0))) ∧ Hid (wr.heap[Y]? = some (.cells #[.int .i64 qt, .int .i64 qx, .int .i64 qy, .int .i64 qz, .int .i64 qp, .int .i64 qq, .int .i64 qs] 79 (0, 0)))) (fun kv _ => (intOf kv).toNat)
                case atStart => exact ⟨N, cn + N, by first | rfl | (congr 1), rfl, Nat.le_refl _, G7.out, OL8.out, OP8.out, fun i h1 h2 => by omega, D1.out, D2.out, D3.out, D4.out⟩
                case round =>
                  clear G7 OL8 OP8 D1 D2 D3 D4
                  obtain ⟨q, kk, rfl, hkk, hq, hg, hol, hop, hkey, hb1, hb2, hbx, hby⟩ := hrel
                  obtain ⟨wh, hwh⟩ : ∃ W : World, W = wr := ⟨_, rfl⟩
                  subst hwh
                  have EXIT : Hid ((q = 0 ∨ ¬ psKey FL (is.getD (q - 1) 0) < psKey FL N) → wh.ownsRow w.heap.size 42 3 (.slice (some ⟨gl, 0, none⟩) ln cl) (cn + (N + 1)) ((C ++ (stI (psKey FL) (N + 1)).map (crF ⟨pt, px, py, pz, pp, pq, ps⟩ ⟨qt, qx, qy, qz, qp, qq, qs⟩ j FL)).flatMap crsCs) ∧ wh.ownsRow w.heap.size 91 2 (.slice (some ⟨gp, 0, none⟩) pn cp) (N + 1) (((stI (psKey FL) (N + 1)).map (psD FL)).flatMap prCs)) := fun hx => by
                    have e1 : insAt is N q = stI (psKey FL) (N + 1) := stI_of (HIS.out.put (p := q) hq hx (by
                      rcases Nat.lt_or_ge q N with c | c
                      · exact .inr (hkey.out q (Nat.le_refl _) c)
                      · exact .inl (by omega)))
                    have h1 := hol.out; have h2 := hop.out
                    rw [e1] at h1 h2
                    have e2 : cn + (N + 1) = ln := by have := HLN.out.1; omega
                    rw [← HLN.out.2] at h2 ⊢
                    rw [e2]
                    exact ⟨h1, h2⟩
                  by_cases hq0 : 0 < q
                  · obtain ⟨p, rfl⟩ : ∃ p, q = p + 1 := ⟨q - 1, by omega⟩
                    have isl := HIS.out.len
                    obtain ⟨ip, hip⟩ : ∃ n, is.getD p 0 = n := ⟨_, rfl⟩
                    have hipN : ip < FL.length := by
                      have hpl : p < is.length := by omega
                      have h0 : ip ∈ is := by rw [← hip, List.getD_eq_getElem?_getD, List.getElem?_eq_getElem hpl]; exact List.getElem_mem hpl
                      have := HIS.out.lt h0; have := NF.out; omega
                    have xpi := psD_in PIN.out ip
                    obtain ⟨b, hb⟩ : ∃ b, psgLt (psD FL N) (psD FL ip) = b := ⟨_, rfl⟩
                    have HKY : Hid (psKey FL ip < psKey FL N ↔ b = true) := by show _ ↔ _; rw [psKey_iff PIN.out NF.out hipN, hb]
                    rw [PN.out] at hb
                    have cp1 : ((insAt is N (p + 1)).map (psD FL))[p + 1]? = some ⟨k, prt, whl⟩ := by rw [List.getElem?_map, insAt_at (by omega)]; show some (psD FL N) = _; rw [PN.out]
                    have cp0 : ((insAt is N (p + 1)).map (psD FL))[p]? = some (psD FL ip) := by rw [List.getElem?_map, insAt_before (by omega) (by omega), hip]; rfl
                    have cl1 : (C ++ (insAt is N (p + 1)).map (crF ⟨pt, px, py, pz, pp, pq, ps⟩ ⟨qt, qx, qy, qz, qp, qq, qs⟩ j FL))[kk]? = some ⟨k, j, at1⟩ := by
                      have e1 : kk - C.length = p + 1 := by rw [HCN.out]; have := hkk.out; omega
                      rw [List.getElem?_append_right (by rw [HCN.out]; have := hkk.out; omega), e1, List.getElem?_map, insAt_at (by omega)]; show some (crF _ _ _ _ N) = _; rw [CV2.out]
                    obtain ⟨km, hkm⟩ : ∃ n, kk = n + 1 := ⟨kk - 1, by have := hkk.out; omega⟩
                    have hkmc : km = cn + p := by have := hkk.out; omega
                    have cl0 : (C ++ (insAt is N (p + 1)).map (crF ⟨pt, px, py, pz, pp, pq, ps⟩ ⟨qt, qx, qy, qz, qp, qq, qs⟩ j FL))[km]? = some (crF ⟨pt, px, py, pz, pp, pq, ps⟩ ⟨qt, qx, qy, qz, qp, qq, qs⟩ j FL ip) := by
                      have e1 : km - C.length = p := by rw [HCN.out]; omega
                      rw [List.getElem?_append_right (by rw [HCN.out]; omega), e1, List.getElem?_map, insAt_before (by omega) (by omega), hip]; rfl
                    have plen : ((insAt is N (p + 1)).map (psD FL)).length = pn := by rw [List.length_map, insAt_len]; have := HLN.out.2; omega
                    have llen : (C ++ (insAt is N (p + 1)).map (crF ⟨pt, px, py, pz, pp, pq, ps⟩ ⟨qt, qx, qy, qz, qp, qq, qs⟩ j FL)).length = ln := by rw [List.length_append, List.length_map, insAt_len, HCN.out]; have := HLN.out.1; omega
                    have MV1 : Hid (∀ c : Nat → Crs, c ip = crF ⟨pt, px, py, pz, pp, pq, ps⟩ ⟨qt, qx, qy, qz, qp, qq, qs⟩ j FL ip → True) := fun _ _ => trivial
                    have HIP := Lib.hid hip
                    obtain ⟨cP, hcP⟩ : ∃ c, crF ⟨pt, px, py, pz, pp, pq, ps⟩ ⟨qt, qx, qy, qz, qp, qq, qs⟩ j FL ip = c := ⟨_, rfl⟩
                    obtain ⟨xP, hxP⟩ : ∃ c, psD FL ip = c := ⟨_, rfl⟩
                    rw [hcP] at cl0
                    rw [hxP] at cp0 hb xpi
                    have HCP := Lib.hid hcP; have HXP := Lib.hid hxP; have HB := Lib.hid hb; have XPI := Lib.hid xpi; have PLEN := Lib.hid plen; have LLEN := Lib.hid llen
                    have HKK : Hid (kk = km + 1 ∧ km = cn + p) := ⟨hkm, hkmc⟩
                    clear hcP hxP hb xpi hip MV1
                    obtain ⟨gP, aP, bP⟩ := xP
                    obtain ⟨c0, c1, c2⟩ := cP
                    have pl1 : p + 1 < pn := by have := HLN.out.2; omega
                    have kl1 : kk < ln := by have := HLN.out.1; have := hkk.out; omega
                    obtain ⟨q1, hq1⟩ : ∃ n, p + 1 = n := ⟨_, rfl⟩
                    have d0 := own_cellK (cs := prCs) (fun _ => rfl) hop.out plen (i := p + 1) (c := 0) pl1 cp1 rfl; have d1 := own_cellK (cs := prCs) (fun _ => rfl) hop.out plen (i := p + 1) (c := 1) pl1 cp1 rfl
                    have d2 := own_cellK (cs := prCs) (fun _ => rfl) hop.out plen (i := p) (c := 0) (by omega) cp0 rfl; have d3 := own_cellK (cs := prCs) (fun _ => rfl) hop.out plen (i := p) (c := 1) (by omega) cp0 rfl
                    rw [hq1] at d0 d1
                    simp only [Nat.add_zero] at d0 d2
                    have CP1 := Lib.hid cp1; have CP0 := Lib.hid cp0; have CL1 := Lib.hid cl1; have CL0 := Lib.hid cl0
                    have HQ1 := Lib.hid hq1
                    have HOL := Lib.hid hol.out; have HOP := Lib.hid hop.out; have HG := Lib.hid hg.out; have HKE := Lib.hid hkey.out
                    have F1 := Lib.hid hb1.out; have F2 := Lib.hid hb2.out; have F3 := Lib.hid hbx.out; have F4 := Lib.hid hby.out
                    have i1 : (kk : Int) - (cn : Int) = (q1 : Int) := by omega
                    have i2' : (kk : Int) - 1 = (km : Int) := by omega
                    have i3 : (km : Int) - (cn : Int) = (p : Int) := by omega
                    have i4 : (cn : Int) < (kk : Int) := by omega
                    have i5 : decide ((kk : Int) > (cn : Int)) = true := decide_eq_true i4
                    have r1 : IntKind.i64.wrap (q1 : Int) = (q1 : Int) := IntWalk.i64_in _ (by omega)
                    have r2 : IntKind.i64.wrap (km : Int) = (km : Int) := IntWalk.i64_in _ (by omega)
                    have r3 : IntKind.i64.wrap (p : Int) = (p : Int) := IntWalk.i64_in _ (by omega)
                    have b1 : (q1 : Int) < (pn : Int) := by omega
                    have b2 : (p : Int) < (pn : Int) := by omega
                    have b3 : (kk : Int) < (ln : Int) := by omega
                    have b4 : (km : Int) < (ln : Int) := by omega
                    have b0 : (0 : Int) ≤ (q1 : Int) := by omega
                    have b5 : (0 : Int) ≤ (p : Int) := by omega
                    have b6 : (0 : Int) ≤ (kk : Int) := by omega
                    have b7 : (0 : Int) ≤ (km : Int) := by omega
                    have HPL : Hid (p + 1 < pn ∧ kk < ln ∧ p + 1 ≤ N) := ⟨pl1, kl1, hq⟩
                    clear hol hop hg hkey hb1 hb2 hbx hby cp1 cp0 cl1 cl0 plen llen hkm hkmc hq1 hkk hq0 pl1 kl1 isl hipN hq
                    have gd : wh.grownBy wh.drew none := grown_drewN wh none 1
                    go_upto_region 20 with (fail)
                    refine region_late (lateK (fun V => wh.grownBy V none) []) (by kernel_rfl) gd (fun hCg0 hSg0 => ?_)
                    generalize wh.drew = wd at *
                    refine wpAnyS_take (i := 0) (oi := ?oig1) (v := .int .i64 (kk : Int)) ?hig1 (by kernel_rfl) (by kernel_rfl) (by kernel_rfl) (lateK_iff (by rfl)) ?hqg1 ?hyg1 hCg0 hSg0 ?restg1
                    case hig1 => simp only [List.getElem?_toArray, List.getElem?_cons_succ, List.getElem?_cons_zero, Option.some.injEq]; rfl
                    case hqg1 => exact fun _ _ _ h => h
                    case hyg1 =>
                      refine Or.inl ⟨by kernel_rfl, fun V hV => ?_⟩
                      clear hV
                      go_simp
                    intro hCg1 hSg1
                    clear hCg0 hSg0
                    try simp only [Go.Act.put, List.setIfInBounds_toArray, List.set_cons_zero, List.set_cons_succ]
                    refine wpAnyS_take (i := 1) (oi := ?oig2) (v := .int .i64 (cn : Int)) ?hig2 (by kernel_rfl) (by kernel_rfl) (by kernel_rfl) (lateK_iff (by rfl)) ?hqg2 ?hyg2 hCg1 hSg1 ?restg2
                    case hig2 => simp only [List.getElem?_toArray, List.getElem?_cons_succ, List.getElem?_cons_zero, Option.some.injEq]; rfl
                    case hqg2 => exact fun _ _ _ h => h
                    case hyg2 =>
                      refine Or.inl ⟨by kernel_rfl, fun V hV => ?_⟩
                      clear hV
                      go_simp
                    intro hCg2 hSg2
                    clear hCg1 hSg1
                    try simp only [Go.Act.put, List.setIfInBounds_toArray, List.set_cons_zero, List.set_cons_succ]
                    refine wpAnyS_take (i := 2) (oi := ?oig3) (v := .bool true) ?hig3 (by kernel_rfl) (by kernel_rfl) (by kernel_rfl) (lateK_iff (by rfl)) ?hqg3 ?hyg3 hCg2 hSg2 ?restg3
                    case hig3 => simp only [List.getElem?_toArray, List.getElem?_cons_succ, List.getElem?_cons_zero, Option.some.injEq]; rfl
                    case hqg3 => exact fun _ _ _ h => h
                    case hyg3 =>
                      refine Or.inl ⟨by kernel_rfl, fun V hV => ?_⟩
                      clear hV
                      go_simp
                    intro hCg3 hSg3
                    clear hCg2 hSg2
                    try simp only [Go.Act.put, List.setIfInBounds_toArray, List.set_cons_zero, List.set_cons_succ]
                    refine wpAnyS_take (i := 3) (oi := ?oig4) (v := .bool true) ?hig4 (by kernel_rfl) (by kernel_rfl) (by kernel_rfl) (lateK_iff (by rfl)) ?hqg4 ?hyg4 hCg3 hSg3 ?restg4
                    case hig4 => simp only [List.getElem?_toArray, List.getElem?_cons_succ, List.getElem?_cons_zero, Option.some.injEq]; rfl
                    case hqg4 => exact fun _ _ _ h => h
                    case hyg4 =>
                      refine Or.inl ⟨by kernel_rfl, fun V hV => ?_⟩
                      clear hV
                      go_simp
                    intro hCg4 hSg4
                    clear hCg3 hSg3
                    try simp only [Go.Act.put, List.setIfInBounds_toArray, List.set_cons_zero, List.set_cons_succ]
                    refine wpAnyS_take (i := 4) (oi := ?oig5) (v := .slice (some ⟨gp, 0, none⟩) pn cp) ?hig5 (by kernel_rfl) (by kernel_rfl) (by kernel_rfl) (lateK_iff (by rfl)) ?hqg5 ?hyg5 hCg4 hSg4 ?restg5
                    case hig5 => simp only [List.getElem?_toArray, List.getElem?_cons_succ, List.getElem?_cons_zero, Option.some.injEq]; rfl
                    case hqg5 => exact fun _ _ _ h => h
                    case hyg5 =>
                      refine Or.inl ⟨by kernel_rfl, fun V hV => ?_⟩
                      clear hV
                      go_simp
                    intro hCg5 hSg5
                    clear hCg4 hSg4
                    try simp only [Go.Act.put, List.setIfInBounds_toArray, List.set_cons_zero, List.set_cons_succ]
                    refine wpAnyS_take (i := 5) (oi := ?oig6) (v := .int .i64 (kk : Int)) ?hig6 (by kernel_rfl) (by kernel_rfl) (by kernel_rfl) (lateK_iff (by rfl)) ?hqg6 ?hyg6 hCg5 hSg5 ?restg6
                    case hig6 => simp only [List.getElem?_toArray, List.getElem?_cons_succ, List.getElem?_cons_zero, Option.some.injEq]; rfl
                    case hqg6 => exact fun _ _ _ h => h
                    case hyg6 =>
                      refine Or.inl ⟨by kernel_rfl, fun V hV => ?_⟩
                      clear hV
                      go_simp
                    intro hCg6 hSg6
                    clear hCg5 hSg5
                    try simp only [Go.Act.put, List.setIfInBounds_toArray, List.set_cons_zero, List.set_cons_succ]
                    refine wpAnyS_take (i := 6) (oi := ?oig7) (v := .int .i64 (cn : Int)) ?hig7 (by kernel_rfl) (by kernel_rfl) (by kernel_rfl) (lateK_iff (by rfl)) ?hqg7 ?hyg7 hCg6 hSg6 ?restg7
                    case hig7 => simp only [List.getElem?_toArray, List.getElem?_cons_succ, List.getElem?_cons_zero, Option.some.injEq]; rfl
                    case hqg7 => exact fun _ _ _ h => h
                    case hyg7 =>
                      refine Or.inl ⟨by kernel_rfl, fun V hV => ?_⟩
                      clear hV
                      go_simp
                    intro hCg7 hSg7
                    clear hCg6 hSg6
                    try simp only [Go.Act.put, List.setIfInBounds_toArray, List.set_cons_zero, List.set_cons_succ]
                    refine wpAnyS_take (i := 7) (oi := ?oig8) (v := .int .i64 (q1 : Int)) ?hig8 (by kernel_rfl) (by kernel_rfl) (by kernel_rfl) (lateK_iff (by rfl)) ?hqg8 ?hyg8 hCg7 hSg7 ?restg8
                    case hig8 => simp only [List.getElem?_toArray, List.getElem?_cons_succ, List.getElem?_cons_zero, Option.some.injEq]; rfl
                    case hqg8 => exact fun _ _ _ h => h
                    case hyg8 =>
                      refine Or.inl ⟨by kernel_rfl, fun V hV => ?_⟩
                      clear hV
                      go_simp
                    intro hCg8 hSg8
                    clear hCg7 hSg7
                    try simp only [Go.Act.put, List.setIfInBounds_toArray, List.set_cons_zero, List.set_cons_succ]
                    refine wpAnyS_take (i := 8) (oi := ?oig9) (v := .pointer (some ⟨gp, q1 * 2, none⟩)) ?hig9 (by kernel_rfl) (by kernel_rfl) (by kernel_rfl) (lateK_iff (by rfl)) ?hqg9 ?hyg9 hCg8 hSg8 ?restg9
                    case hig9 => simp only [List.getElem?_toArray, List.getElem?_cons_succ, List.getElem?_cons_zero, Option.some.injEq]; rfl
                    case hqg9 => exact fun _ _ _ h => h
                    case hyg9 =>
                      refine Or.inl ⟨by kernel_rfl, fun V hV => ?_⟩
                      clear hV
                      go_simp
                    intro hCg9 hSg9
                    clear hCg8 hSg8
                    try simp only [Go.Act.put, List.setIfInBounds_toArray, List.set_cons_zero, List.set_cons_succ]
                    refine wpAnyS_take (i := 9) (oi := ?oig10) (v := .agg #[.int .i64 prt, .int .i64 whl]) ?hig10 (by kernel_rfl) (by kernel_rfl) (by kernel_rfl) (lateK_iff (by rfl)) ?hqg10 ?hyg10 hCg9 hSg9 ?restg10
                    case hig10 => simp only [List.getElem?_toArray, List.getElem?_cons_succ, List.getElem?_cons_zero, Option.some.injEq]; rfl
                    case hqg10 => exact fun _ _ _ h => h
                    case hyg10 =>
                      refine Or.inl ⟨by kernel_rfl, fun V hV => ?_⟩
                      have gV := lateK_g hV; have zz0 := grown_cell gV d0; have zz1 := grown_cell gV d1; clear gV; clear hV
                      go_simp
                    intro hCg10 hSg10
                    clear hCg9 hSg9
                    try simp only [Go.Act.put, List.setIfInBounds_toArray, List.set_cons_zero, List.set_cons_succ]
                    refine wpAnyS_take (i := 10) (oi := ?oig11) (v := .slice (some ⟨gp, 0, none⟩) pn cp) ?hig11 (by kernel_rfl) (by kernel_rfl) (by kernel_rfl) (lateK_iff (by rfl)) ?hqg11 ?hyg11 hCg10 hSg10 ?restg11
                    case hig11 => simp only [List.getElem?_toArray, List.getElem?_cons_succ, List.getElem?_cons_zero, Option.some.injEq]; rfl
                    case hqg11 => exact fun _ _ _ h => h
                    case hyg11 =>
                      refine Or.inl ⟨by kernel_rfl, fun V hV => ?_⟩
                      clear hV
                      go_simp
                    intro hCg11 hSg11
                    clear hCg10 hSg10
                    try simp only [Go.Act.put, List.setIfInBounds_toArray, List.set_cons_zero, List.set_cons_succ]
                    refine wpAnyS_take (i := 11) (oi := ?oig12) (v := .int .i64 (kk : Int)) ?hig12 (by kernel_rfl) (by kernel_rfl) (by kernel_rfl) (lateK_iff (by rfl)) ?hqg12 ?hyg12 hCg11 hSg11 ?restg12
                    case hig12 => simp only [List.getElem?_toArray, List.getElem?_cons_succ, List.getElem?_cons_zero, Option.some.injEq]; rfl
                    case hqg12 => exact fun _ _ _ h => h
                    case hyg12 =>
                      refine Or.inl ⟨by kernel_rfl, fun V hV => ?_⟩
                      clear hV
                      go_simp
                    intro hCg12 hSg12
                    clear hCg11 hSg11
                    try simp only [Go.Act.put, List.setIfInBounds_toArray, List.set_cons_zero, List.set_cons_succ]
                    refine wpAnyS_take (i := 12) (oi := ?oig13) (v := .int .i64 (km : Int)) ?hig13 (by kernel_rfl) (by kernel_rfl) (by kernel_rfl) (lateK_iff (by rfl)) ?hqg13 ?hyg13 hCg12 hSg12 ?restg13
                    case hig13 => simp only [List.getElem?_toArray, List.getElem?_cons_succ, List.getElem?_cons_zero, Option.some.injEq]; rfl
                    case hqg13 => exact fun _ _ _ h => h
                    case hyg13 =>
                      refine Or.inl ⟨by kernel_rfl, fun V hV => ?_⟩
                      clear hV
                      go_simp
                    intro hCg13 hSg13
                    clear hCg12 hSg12
                    try simp only [Go.Act.put, List.setIfInBounds_toArray, List.set_cons_zero, List.set_cons_succ]
                    refine wpAnyS_take (i := 13) (oi := ?oig14) (v := .int .i64 (cn : Int)) ?hig14 (by kernel_rfl) (by kernel_rfl) (by kernel_rfl) (lateK_iff (by rfl)) ?hqg14 ?hyg14 hCg13 hSg13 ?restg14
                    case hig14 => simp only [List.getElem?_toArray, List.getElem?_cons_succ, List.getElem?_cons_zero, Option.some.injEq]; rfl
                    case hqg14 => exact fun _ _ _ h => h
                    case hyg14 =>
                      refine Or.inl ⟨by kernel_rfl, fun V hV => ?_⟩
                      clear hV
                      go_simp
                    intro hCg14 hSg14
                    clear hCg13 hSg13
                    try simp only [Go.Act.put, List.setIfInBounds_toArray, List.set_cons_zero, List.set_cons_succ]
                    refine wpAnyS_take (i := 14) (oi := ?oig15) (v := .int .i64 (p : Int)) ?hig15 (by kernel_rfl) (by kernel_rfl) (by kernel_rfl) (lateK_iff (by rfl)) ?hqg15 ?hyg15 hCg14 hSg14 ?restg15
                    case hig15 => simp only [List.getElem?_toArray, List.getElem?_cons_succ, List.getElem?_cons_zero, Option.some.injEq]; rfl
                    case hqg15 => exact fun _ _ _ h => h
                    case hyg15 =>
                      refine Or.inl ⟨by kernel_rfl, fun V hV => ?_⟩
                      clear hV
                      go_simp
                    intro hCg15 hSg15
                    clear hCg14 hSg14
                    try simp only [Go.Act.put, List.setIfInBounds_toArray, List.set_cons_zero, List.set_cons_succ]
                    refine wpAnyS_take (i := 15) (oi := ?oig16) (v := .pointer (some ⟨gp, p * 2, none⟩)) ?hig16 (by kernel_rfl) (by kernel_rfl) (by kernel_rfl) (lateK_iff (by rfl)) ?hqg16 ?hyg16 hCg15 hSg15 ?restg16
                    case hig16 => simp only [List.getElem?_toArray, List.getElem?_cons_succ, List.getElem?_cons_zero, Option.some.injEq]; rfl
                    case hqg16 => exact fun _ _ _ h => h
                    case hyg16 =>
                      refine Or.inl ⟨by kernel_rfl, fun V hV => ?_⟩
                      clear hV
                      go_simp
                    intro hCg16 hSg16
                    clear hCg15 hSg15
                    try simp only [Go.Act.put, List.setIfInBounds_toArray, List.set_cons_zero, List.set_cons_succ]
                    refine wpAnyS_take (i := 16) (oi := ?oig17) (v := .agg #[.int .i64 aP, .int .i64 bP]) ?hig17 (by kernel_rfl) (by kernel_rfl) (by kernel_rfl) (lateK_iff (by rfl)) ?hqg17 ?hyg17 hCg16 hSg16 ?restg17
                    case hig17 => simp only [List.getElem?_toArray, List.getElem?_cons_succ, List.getElem?_cons_zero, Option.some.injEq]; rfl
                    case hqg17 => exact fun _ _ _ h => h
                    case hyg17 =>
                      refine Or.inl ⟨by kernel_rfl, fun V hV => ?_⟩
                      have gV := lateK_g hV; have zz2 := grown_cell gV d2; have zz3 := grown_cell gV d3; clear gV; clear hV
                      go_simp
                    intro hCg17 hSg17
                    clear hCg16 hSg16
                    try simp only [Go.Act.put, List.setIfInBounds_toArray, List.set_cons_zero, List.set_cons_succ]
                    refine wpAnyS_ready (rs := [17]) (by kernel_rfl) (by simp) ?_
                    refine AllReadyS.cons rfl hCg17 (fun K hK => ?_) AllReadyS.nil
                    go_simp
                    refine (rless_is ⟨k, prt, whl⟩ ⟨gP, aP, bP⟩ XIN.out XPI.out _ HB).mono ?_; rintro e w17 ⟨rfl, hg17⟩
                    refine hK.out _ _ (grown_trans gd hg17) (fun hCg18 hSg18 => ?_)
                    clear hK hCg17 hSg17 K
                    try simp only [Go.Act.put, List.setIfInBounds_toArray, List.set_cons_zero, List.set_cons_succ]
                    refine wpAnyS_take (i := 18) (oi := ?oig19) (v := .bool b) ?hig19 (by kernel_rfl) (by kernel_rfl) (by kernel_rfl) (lateK_iff (by rfl)) ?hqg19 ?hyg19 hCg18 hSg18 ?restg19
                    case hig19 => simp only [List.getElem?_toArray, List.getElem?_cons_succ, List.getElem?_cons_zero, Option.some.injEq]; rfl
                    case hqg19 => exact fun _ _ _ h => h
                    case hyg19 =>
                      refine Or.inl ⟨by kernel_rfl, fun V hV => ?_⟩
                      clear hV
                      go_simp
                    intro hCg19 hSg19
                    clear hCg18 hSg18
                    try simp only [Go.Act.put, List.setIfInBounds_toArray, List.set_cons_zero, List.set_cons_succ]
                    refine wpAnyS_done (by kernel_rfl) ?_ _
                    clear hCg19 hSg19
                    have g17 := grown_trans gd hg17
                    have HG2 := Lib.hid (grown_trans HG.out g17)
                    have HOL2 := Lib.hid (HOL.out.kept g17 (Classical.em _)); have HOP2 := Lib.hid (HOP.out.kept g17 (Classical.em _))
                    have F5 := Lib.hid (mblock_at F1.out g17 (by simp)); have F6 := Lib.hid (mblock_at F2.out g17 (by simp)); have F7 := Lib.hid (mblock_at F3.out g17 (by simp)); have F8 := Lib.hid (mblock_at F4.out g17 (by simp))
                    clear d0 d1 d2 d3 gd hg17
                    cases b with
                    | false =>
                      obtain ⟨e1, e2⟩ := EXIT.out (.inr (by rw [Nat.add_sub_cancel, HIP.out]; intro hc; have := HKY.out.1 hc; simp at this))
                      have E1 := Lib.hid (e1.kept g17 (Classical.em _)); have E2 := Lib.hid (e2.kept g17 (Classical.em _))
                      clear e1 e2 g17 EXIT HOL HOP HG F1 F2 F3 F4
                      go_wp2_with fail
                      go_roundw
                      case rel => exact ⟨k + 1, N + 1, _, _, rfl, rfl, by go_num, HKL.out, NK.out, HG2.out, E1.out, E2.out, F5.out, F6.out, F7.out, F8.out, (fun r e => by injection e with e; subst e; exact FAR.out.1), (fun r e => by injection e with e; subst e; exact FAR.out.2.1), (fun r e h => by injection e with e; injection h with h; subst e; exact FAR.out.2.2 h.symm)⟩
                      case measure => simp [intOf]; omega
                    | true =>
                      clear g17 EXIT HOL HOP HG F1 F2 F3 F4
                      obtain ⟨wi, hwi⟩ : ∃ W : World, W = w17 := ⟨_, rfl⟩
                      subst hwi
                      have mixed : Try.prog.follows .mixedOrders = true := by kernel_rfl
                      have x0 := own_cellK (cs := crsCs) (fun _ => rfl) HOL2.out LLEN.out (i := kk) (c := 0) HPL.out.2.1 CL1.out rfl; have x1 := own_cellK (cs := crsCs) (fun _ => rfl) HOL2.out LLEN.out (i := kk) (c := 1) HPL.out.2.1 CL1.out rfl; have x2 := own_cellK (cs := crsCs) (fun _ => rfl) HOL2.out LLEN.out (i := kk) (c := 2) HPL.out.2.1 CL1.out rfl
                      have y0 := own_cellK (cs := crsCs) (fun _ => rfl) HOL2.out LLEN.out (i := km) (c := 0) (by omega) CL0.out rfl; have y1 := own_cellK (cs := crsCs) (fun _ => rfl) HOL2.out LLEN.out (i := km) (c := 1) (by omega) CL0.out rfl; have y2 := own_cellK (cs := crsCs) (fun _ => rfl) HOL2.out LLEN.out (i := km) (c := 2) (by omega) CL0.out rfl
                      simp only [Nat.add_zero] at x0 y0
                      have f0 := own_freeK HOL2.out (kk * 3)
                      have f1 := own_freeK HOL2.out (kk * 3 + 1)
                      have f2 := own_freeK HOL2.out (kk * 3 + 2)
                      have f3 := own_freeK HOL2.out (km * 3)
                      have f4 := own_freeK HOL2.out (km * 3 + 1)
                      have f5 := own_freeK HOL2.out (km * 3 + 2)
                      go_wp2_with fail
                      go_big_region_o
                      clear x0 x1 x2 y0 y1 y2 f0 f1 f2 f3 f4 f5
                      have O1 : Hid ((((((((wi.setCell ⟨gl, kk * 3, none⟩ (.int .i64 c0)).setCell ⟨gl, kk * 3 + 1, none⟩ (.int .i64 c1)).setCell ⟨gl, kk * 3 + 2, none⟩ (.int .i64 c2)).setCell ⟨gl, km * 3, none⟩ (.int .i64 k)).setCell ⟨gl, km * 3 + 1, none⟩ (.int .i64 j)).setCell ⟨gl, km * 3 + 2, none⟩ (.int .i64 at1)).drew).ownsRow w.heap.size 42 3 (.slice (some ⟨gl, 0, none⟩) ln cl) ln ((C ++ (insAt is N p).map (crF ⟨pt, px, py, pz, pp, pq, ps⟩ ⟨qt, qx, qy, qz, qp, qq, qs⟩ j FL)).flatMap crsCs)) := by
                        have q := own_set (cs := crsCs) (fun _ => rfl) (own_set (cs := crsCs) (fun _ => rfl) HOL2.out LLEN.out (i := kk) HPL.out.2.1 ⟨c0, c1, c2⟩) (by rw [List.length_set]; exact LLEN.out) (i := km) (by omega) ⟨k, j, at1⟩
                        have e : ((C ++ (insAt is N (p + 1)).map (crF ⟨pt, px, py, pz, pp, pq, ps⟩ ⟨qt, qx, qy, qz, qp, qq, qs⟩ j FL)).set kk ⟨c0, c1, c2⟩).set km ⟨k, j, at1⟩ = C ++ (insAt is N p).map (crF ⟨pt, px, py, pz, pp, pq, ps⟩ ⟨qt, qx, qy, qz, qp, qq, qs⟩ j FL) := by
                          rw [show kk = C.length + (p + 1) by rw [HCN.out]; have := HKK.out; omega, show km = C.length + p by rw [HCN.out]; have := HKK.out; omega, set_behind, set_behind, ← CV2.out, ← HCP.out, ← HIP.out]
                          exact congrArg (C ++ ·) (insAt_move (crF ⟨pt, px, py, pz, pp, pq, ps⟩ ⟨qt, qx, qy, qz, qp, qq, qs⟩ j FL) is N p (by rw [HIS.out.len]; exact HPL.out.2.2))
                        rw [e] at q
                        exact q.kept (grown_drewN _ none 1) (Classical.em _)
                      have GA : Hid (wi.grownBy (((((((wi.setCell ⟨gl, kk * 3, none⟩ (.int .i64 c0)).setCell ⟨gl, kk * 3 + 1, none⟩ (.int .i64 c1)).setCell ⟨gl, kk * 3 + 2, none⟩ (.int .i64 c2)).setCell ⟨gl, km * 3, none⟩ (.int .i64 k)).setCell ⟨gl, km * 3 + 1, none⟩ (.int .i64 j)).setCell ⟨gl, km * 3 + 2, none⟩ (.int .i64 at1)).drew) (some gl)) := ((setCells_grown gl (crsCs ⟨c0, c1, c2⟩) (kk * 3) wi).trans (setCells_grown gl (crsCs ⟨k, j, at1⟩) (km * 3) _)).trans (grown_drewN _ _ 1)
                      generalize ((((((wi.setCell ⟨gl, kk * 3, none⟩ (.int .i64 c0)).setCell ⟨gl, kk * 3 + 1, none⟩ (.int .i64 c1)).setCell ⟨gl, kk * 3 + 2, none⟩ (.int .i64 c2)).setCell ⟨gl, km * 3, none⟩ (.int .i64 k)).setCell ⟨gl, km * 3 + 1, none⟩ (.int .i64 j)).setCell ⟨gl, km * 3 + 2, none⟩ (.int .i64 at1)).drew = v1 at *
                      have OP3 := Lib.hid (HOP2.out.kept GA.out (.inr (fun e => FAR.out.2.2 (by injection e with e; exact e.symm))))
                      have G3 := Lib.hid (mgrown_row HG2.out GA.out (fun r e => by injection e with e; subst e; have := FAR.out.1.1; omega))
                      have H1 := Lib.hid (mblock_at F5.out GA.out (fun e => by injection e with e; have := FAR.out.1.1; omega)); have H2 := Lib.hid (mblock_at F6.out GA.out (fun e => by injection e with e; have := FAR.out.1.1; omega)); have H3 := Lib.hid (mblock_at F7.out GA.out (fun e => by injection e with e; exact FAR.out.1.2.1 e.symm)); have H4 := Lib.hid (mblock_at F8.out GA.out (fun e => by injection e with e; exact FAR.out.1.2.2 e.symm))
                      clear HOL2 HOP2 HG2 F5 F6 F7 F8 GA
                      have d0 := own_cellK (cs := prCs) (fun _ => rfl) OP3.out PLEN.out (i := p + 1) (c := 0) HPL.out.1 CP1.out rfl; have d1 := own_cellK (cs := prCs) (fun _ => rfl) OP3.out PLEN.out (i := p + 1) (c := 1) HPL.out.1 CP1.out rfl
                      have d2 := own_cellK (cs := prCs) (fun _ => rfl) OP3.out PLEN.out (i := p) (c := 0) (by have := HPL.out.1; omega) CP0.out rfl; have d3 := own_cellK (cs := prCs) (fun _ => rfl) OP3.out PLEN.out (i := p) (c := 1) (by have := HPL.out.1; omega) CP0.out rfl
                      rw [HQ1.out] at d0 d1
                      simp only [Nat.add_zero] at d0 d2
                      have f0 := own_freeK OP3.out (q1 * 2); have f1 := own_freeK OP3.out (q1 * 2 + 1); have f2 := own_freeK OP3.out (p * 2); have f3 := own_freeK OP3.out (p * 2 + 1)
                      go_wp2_with fail
                      go_big_region_o
                      clear d0 d1 d2 d3 f0 f1 f2 f3
                      have O2 : Hid ((((((v1.setCell ⟨gp, q1 * 2, none⟩ (.int .i64 aP)).setCell ⟨gp, q1 * 2 + 1, none⟩ (.int .i64 bP)).setCell ⟨gp, p * 2, none⟩ (.int .i64 prt)).setCell ⟨gp, p * 2 + 1, none⟩ (.int .i64 whl)).drew).ownsRow w.heap.size 91 2 (.slice (some ⟨gp, 0, none⟩) pn cp) pn (((insAt is N p).map (psD FL)).flatMap prCs)) := by
                        have q := own_set (cs := prCs) (fun _ => rfl) (own_set (cs := prCs) (fun _ => rfl) OP3.out PLEN.out (i := p + 1) HPL.out.1 ⟨gP, aP, bP⟩) (by rw [List.length_set]; exact PLEN.out) (i := p) (by have := HPL.out.1; omega) ⟨k, prt, whl⟩
                        have e : (((insAt is N (p + 1)).map (psD FL)).set (p + 1) ⟨gP, aP, bP⟩).set p ⟨k, prt, whl⟩ = (insAt is N p).map (psD FL) := by
                          rw [← PN.out, ← HXP.out, ← HIP.out]
                          exact insAt_move (psD FL) is N p (by rw [HIS.out.len]; exact HPL.out.2.2)
                        rw [e, HQ1.out] at q
                        exact q.kept (grown_drewN _ none 1) (Classical.em _)
                      have GB : Hid (v1.grownBy (((((v1.setCell ⟨gp, q1 * 2, none⟩ (.int .i64 aP)).setCell ⟨gp, q1 * 2 + 1, none⟩ (.int .i64 bP)).setCell ⟨gp, p * 2, none⟩ (.int .i64 prt)).setCell ⟨gp, p * 2 + 1, none⟩ (.int .i64 whl)).drew) (some gp)) := ((setCells_grown gp (prCs ⟨gP, aP, bP⟩) (q1 * 2) v1).trans (setCells_grown gp (prCs ⟨k, prt, whl⟩) (p * 2) _)).trans (grown_drewN _ _ 1)
                      generalize ((((v1.setCell ⟨gp, q1 * 2, none⟩ (.int .i64 aP)).setCell ⟨gp, q1 * 2 + 1, none⟩ (.int .i64 bP)).setCell ⟨gp, p * 2, none⟩ (.int .i64 prt)).setCell ⟨gp, p * 2 + 1, none⟩ (.int .i64 whl)).drew = v2 at *
                      have O3 := Lib.hid (O1.out.kept GB.out (.inr (fun e => FAR.out.2.2 (by injection e with e))))
                      have G4 := Lib.hid (mgrown_row G3.out GB.out (fun r e => by injection e with e; subst e; have := FAR.out.2.1.1; omega))
                      have H5 := Lib.hid (mblock_at H1.out GB.out (fun e => by injection e with e; have := FAR.out.2.1.1; omega)); have H6 := Lib.hid (mblock_at H2.out GB.out (fun e => by injection e with e; have := FAR.out.2.1.1; omega)); have H7 := Lib.hid (mblock_at H3.out GB.out (fun e => by injection e with e; exact FAR.out.2.1.2.1 e.symm)); have H8 := Lib.hid (mblock_at H4.out GB.out (fun e => by injection e with e; exact FAR.out.2.1.2.2 e.symm))
                      clear O1 OP3 G3 H1 H2 H3 H4 GB
                      go_wp2_with fail
                      go_roundw
                      case rel =>
                        refine ⟨p, km, rfl, HKK.out.2, by have := HPL.out.2.2; omega, G4.out, O3.out, O2.out, fun i h1 h2 => ?_, H5.out, H6.out, H7.out, H8.out⟩
                        rcases Nat.lt_or_ge p i with c | c
                        · exact HKE.out i c h2
                        · rw [show i = p by omega, HIP.out]; exact HKY.out.2 (by trivial)
                      case measure => have := HKK.out; simp [intOf]; omega
                  · have hqz : q = 0 := by omega
                    obtain ⟨e1, e2⟩ := EXIT.out (.inl hqz)
                    have E1 := Lib.hid e1; have E2 := Lib.hid e2; have HG := Lib.hid hg.out
                    have F1 := Lib.hid hb1.out; have F2 := Lib.hid hb2.out; have F3 := Lib.hid hbx.out; have F4 := Lib.hid hby.out
                    have hk1 : ¬ (cn : Int) < (kk : Int) := by have := hkk.out; omega
                    have hk2 : decide ((kk : Int) > (cn : Int)) = false := decide_eq_false hk1
                    have hk3 : decide ((cn : Int) < (kk : Int)) = false := decide_eq_false hk1
                    have gd : wh.grownBy wh.drew none := grown_drewN wh none 1
                    clear hol hop hg hb1 hb2 hbx hby hkey e1 e2 EXIT hqz hq0 hkk hq
                    go_upto_region 20 with (fail)
                    refine region_late (lateK (fun V => wh.grownBy V none) []) (by kernel_rfl) gd (fun hCh0 hSh0 => ?_)
                    have gdd := Lib.hid gd
                    generalize wh.drew = wd at *
                    refine wpAnyS_take (i := 0) (oi := ?oih1) (v := .int .i64 (kk : Int)) ?hih1 (by kernel_rfl) (by kernel_rfl) (by kernel_rfl) (lateK_iff (by rfl)) ?hqh1 ?hyh1 hCh0 hSh0 ?resth1
                    case hih1 => simp only [List.getElem?_toArray, List.getElem?_cons_succ, List.getElem?_cons_zero, Option.some.injEq]; rfl
                    case hqh1 => exact fun _ _ _ h => h
                    case hyh1 =>
                      refine Or.inl ⟨by kernel_rfl, fun V hV => ?_⟩
                      clear hV
                      go_simp
                    intro hCh1 hSh1
                    clear hCh0 hSh0
                    try simp only [Go.Act.put, List.setIfInBounds_toArray, List.set_cons_zero, List.set_cons_succ]
                    refine wpAnyS_take (i := 1) (oi := ?oih2) (v := .int .i64 (cn : Int)) ?hih2 (by kernel_rfl) (by kernel_rfl) (by kernel_rfl) (lateK_iff (by rfl)) ?hqh2 ?hyh2 hCh1 hSh1 ?resth2
                    case hih2 => simp only [List.getElem?_toArray, List.getElem?_cons_succ, List.getElem?_cons_zero, Option.some.injEq]; rfl
                    case hqh2 => exact fun _ _ _ h => h
                    case hyh2 =>
                      refine Or.inl ⟨by kernel_rfl, fun V hV => ?_⟩
                      clear hV
                      go_simp
                    intro hCh2 hSh2
                    clear hCh1 hSh1
                    try simp only [Go.Act.put, List.setIfInBounds_toArray, List.set_cons_zero, List.set_cons_succ]
                    refine wpAnyS_take (i := 2) (oi := ?oih3) (v := .bool false) ?hih3 (by kernel_rfl) (by kernel_rfl) (by kernel_rfl) (lateK_iff (by rfl)) ?hqh3 ?hyh3 hCh2 hSh2 ?resth3
                    case hih3 => simp only [List.getElem?_toArray, List.getElem?_cons_succ, List.getElem?_cons_zero, Option.some.injEq]; rfl
                    case hqh3 => exact fun _ _ _ h => h
                    case hyh3 =>
                      refine Or.inl ⟨by kernel_rfl, fun V hV => ?_⟩
                      clear hV
                      go_simp
                    intro hCh3 hSh3
                    clear hCh2 hSh2
                    try simp only [Go.Act.put, List.setIfInBounds_toArray, List.set_cons_zero, List.set_cons_succ]
                    refine wpAnyS_take (i := 3) (oi := ?oih4) (v := .bool false) ?hih4 (by kernel_rfl) (by kernel_rfl) (by kernel_rfl) (lateK_iff (by rfl)) ?hqh4 ?hyh4 hCh3 hSh3 ?resth4
                    case hih4 => simp only [List.getElem?_toArray, List.getElem?_cons_succ, List.getElem?_cons_zero, Option.some.injEq]; rfl
                    case hqh4 => exact fun _ _ _ h => h
                    case hyh4 =>
                      refine Or.inl ⟨by kernel_rfl, fun V hV => ?_⟩
                      clear hV
                      go_simp
                    intro hCh4 hSh4
                    clear hCh3 hSh3
                    try simp only [Go.Act.put, List.setIfInBounds_toArray, List.set_cons_zero, List.set_cons_succ]
                    refine wpAnyS_take (i := 4) (oi := ?oih5) (v := undef) ?hih5 (by kernel_rfl) (by kernel_rfl) (by kernel_rfl) (lateK_iff (by rfl)) ?hqh5 ?hyh5 hCh4 hSh4 ?resth5
                    case hih5 => simp only [List.getElem?_toArray, List.getElem?_cons_succ, List.getElem?_cons_zero, Option.some.injEq]; rfl
                    case hqh5 => exact fun _ _ _ h => h
                    case hyh5 => exact Or.inr ⟨by kernel_rfl, rfl⟩
                    intro hCh5 hSh5
                    clear hCh4 hSh4
                    try simp only [Go.Act.put, List.setIfInBounds_toArray, List.set_cons_zero, List.set_cons_succ]
                    refine wpAnyS_take (i := 5) (oi := ?oih6) (v := undef) ?hih6 (by kernel_rfl) (by kernel_rfl) (by kernel_rfl) (lateK_iff (by rfl)) ?hqh6 ?hyh6 hCh5 hSh5 ?resth6
                    case hih6 => simp only [List.getElem?_toArray, List.getElem?_cons_succ, List.getElem?_cons_zero, Option.some.injEq]; rfl
                    case hqh6 => exact fun _ _ _ h => h
                    case hyh6 => exact Or.inr ⟨by kernel_rfl, rfl⟩
                    intro hCh6 hSh6
                    clear hCh5 hSh5
                    try simp only [Go.Act.put, List.setIfInBounds_toArray, List.set_cons_zero, List.set_cons_succ]
                    refine wpAnyS_take (i := 6) (oi := ?oih7) (v := undef) ?hih7 (by kernel_rfl) (by kernel_rfl) (by kernel_rfl) (lateK_iff (by rfl)) ?hqh7 ?hyh7 hCh6 hSh6 ?resth7
                    case hih7 => simp only [List.getElem?_toArray, List.getElem?_cons_succ, List.getElem?_cons_zero, Option.some.injEq]; rfl
                    case hqh7 => exact fun _ _ _ h => h
                    case hyh7 => exact Or.inr ⟨by kernel_rfl, rfl⟩
                    intro hCh7 hSh7
                    clear hCh6 hSh6
                    try simp only [Go.Act.put, List.setIfInBounds_toArray, List.set_cons_zero, List.set_cons_succ]
                    refine wpAnyS_take (i := 7) (oi := ?oih8) (v := undef) ?hih8 (by kernel_rfl) (by kernel_rfl) (by kernel_rfl) (lateK_iff (by rfl)) ?hqh8 ?hyh8 hCh7 hSh7 ?resth8
                    case hih8 => simp only [List.getElem?_toArray, List.getElem?_cons_succ, List.getElem?_cons_zero, Option.some.injEq]; rfl
                    case hqh8 => exact fun _ _ _ h => h
                    case hyh8 => exact Or.inr ⟨by kernel_rfl, rfl⟩
                    intro hCh8 hSh8
                    clear hCh7 hSh7
                    try simp only [Go.Act.put, List.setIfInBounds_toArray, List.set_cons_zero, List.set_cons_succ]
                    refine wpAnyS_take (i := 8) (oi := ?oih9) (v := undef) ?hih9 (by kernel_rfl) (by kernel_rfl) (by kernel_rfl) (lateK_iff (by rfl)) ?hqh9 ?hyh9 hCh8 hSh8 ?resth9
                    case hih9 => simp only [List.getElem?_toArray, List.getElem?_cons_succ, List.getElem?_cons_zero, Option.some.injEq]; rfl
                    case hqh9 => exact fun _ _ _ h => h
                    case hyh9 => exact Or.inr ⟨by kernel_rfl, rfl⟩
                    intro hCh9 hSh9
                    clear hCh8 hSh8
                    try simp only [Go.Act.put, List.setIfInBounds_toArray, List.set_cons_zero, List.set_cons_succ]
                    refine wpAnyS_take (i := 9) (oi := ?oih10) (v := undef) ?hih10 (by kernel_rfl) (by kernel_rfl) (by kernel_rfl) (lateK_iff (by rfl)) ?hqh10 ?hyh10 hCh9 hSh9 ?resth10
                    case hih10 => simp only [List.getElem?_toArray, List.getElem?_cons_succ, List.getElem?_cons_zero, Option.some.injEq]; rfl
                    case hqh10 => exact fun _ _ _ h => h
                    case hyh10 => exact Or.inr ⟨by kernel_rfl, rfl⟩
                    intro hCh10 hSh10
                    clear hCh9 hSh9
                    try simp only [Go.Act.put, List.setIfInBounds_toArray, List.set_cons_zero, List.set_cons_succ]
                    refine wpAnyS_take (i := 10) (oi := ?oih11) (v := undef) ?hih11 (by kernel_rfl) (by kernel_rfl) (by kernel_rfl) (lateK_iff (by rfl)) ?hqh11 ?hyh11 hCh10 hSh10 ?resth11
                    case hih11 => simp only [List.getElem?_toArray, List.getElem?_cons_succ, List.getElem?_cons_zero, Option.some.injEq]; rfl
                    case hqh11 => exact fun _ _ _ h => h
                    case hyh11 => exact Or.inr ⟨by kernel_rfl, rfl⟩
                    intro hCh11 hSh11
                    clear hCh10 hSh10
                    try simp only [Go.Act.put, List.setIfInBounds_toArray, List.set_cons_zero, List.set_cons_succ]
                    refine wpAnyS_take (i := 11) (oi := ?oih12) (v := undef) ?hih12 (by kernel_rfl) (by kernel_rfl) (by kernel_rfl) (lateK_iff (by rfl)) ?hqh12 ?hyh12 hCh11 hSh11 ?resth12
                    case hih12 => simp only [List.getElem?_toArray, List.getElem?_cons_succ, List.getElem?_cons_zero, Option.some.injEq]; rfl
                    case hqh12 => exact fun _ _ _ h => h
                    case hyh12 => exact Or.inr ⟨by kernel_rfl, rfl⟩
                    intro hCh12 hSh12
                    clear hCh11 hSh11
                    try simp only [Go.Act.put, List.setIfInBounds_toArray, List.set_cons_zero, List.set_cons_succ]
                    refine wpAnyS_take (i := 12) (oi := ?oih13) (v := undef) ?hih13 (by kernel_rfl) (by kernel_rfl) (by kernel_rfl) (lateK_iff (by rfl)) ?hqh13 ?hyh13 hCh12 hSh12 ?resth13
                    case hih13 => simp only [List.getElem?_toArray, List.getElem?_cons_succ, List.getElem?_cons_zero, Option.some.injEq]; rfl
                    case hqh13 => exact fun _ _ _ h => h
                    case hyh13 => exact Or.inr ⟨by kernel_rfl, rfl⟩
                    intro hCh13 hSh13
                    clear hCh12 hSh12
                    try simp only [Go.Act.put, List.setIfInBounds_toArray, List.set_cons_zero, List.set_cons_succ]
                    refine wpAnyS_take (i := 13) (oi := ?oih14) (v := undef) ?hih14 (by kernel_rfl) (by kernel_rfl) (by kernel_rfl) (lateK_iff (by rfl)) ?hqh14 ?hyh14 hCh13 hSh13 ?resth14
                    case hih14 => simp only [List.getElem?_toArray, List.getElem?_cons_succ, List.getElem?_cons_zero, Option.some.injEq]; rfl
                    case hqh14 => exact fun _ _ _ h => h
                    case hyh14 => exact Or.inr ⟨by kernel_rfl, rfl⟩
                    intro hCh14 hSh14
                    clear hCh13 hSh13
                    try simp only [Go.Act.put, List.setIfInBounds_toArray, List.set_cons_zero, List.set_cons_succ]
                    refine wpAnyS_take (i := 14) (oi := ?oih15) (v := undef) ?hih15 (by kernel_rfl) (by kernel_rfl) (by kernel_rfl) (lateK_iff (by rfl)) ?hqh15 ?hyh15 hCh14 hSh14 ?resth15
                    case hih15 => simp only [List.getElem?_toArray, List.getElem?_cons_succ, List.getElem?_cons_zero, Option.some.injEq]; rfl
                    case hqh15 => exact fun _ _ _ h => h
                    case hyh15 => exact Or.inr ⟨by kernel_rfl, rfl⟩
                    intro hCh15 hSh15
                    clear hCh14 hSh14
                    try simp only [Go.Act.put, List.setIfInBounds_toArray, List.set_cons_zero, List.set_cons_succ]
                    refine wpAnyS_take (i := 15) (oi := ?oih16) (v := undef) ?hih16 (by kernel_rfl) (by kernel_rfl) (by kernel_rfl) (lateK_iff (by rfl)) ?hqh16 ?hyh16 hCh15 hSh15 ?resth16
                    case hih16 => simp only [List.getElem?_toArray, List.getElem?_cons_succ, List.getElem?_cons_zero, Option.some.injEq]; rfl
                    case hqh16 => exact fun _ _ _ h => h
                    case hyh16 => exact Or.inr ⟨by kernel_rfl, rfl⟩
                    intro hCh16 hSh16
                    clear hCh15 hSh15
                    try simp only [Go.Act.put, List.setIfInBounds_toArray, List.set_cons_zero, List.set_cons_succ]
                    refine wpAnyS_take (i := 16) (oi := ?oih17) (v := undef) ?hih17 (by kernel_rfl) (by kernel_rfl) (by kernel_rfl) (lateK_iff (by rfl)) ?hqh17 ?hyh17 hCh16 hSh16 ?resth17
                    case hih17 => simp only [List.getElem?_toArray, List.getElem?_cons_succ, List.getElem?_cons_zero, Option.some.injEq]; rfl
                    case hqh17 => exact fun _ _ _ h => h
                    case hyh17 => exact Or.inr ⟨by kernel_rfl, rfl⟩
                    intro hCh17 hSh17
                    clear hCh16 hSh16
                    try simp only [Go.Act.put, List.setIfInBounds_toArray, List.set_cons_zero, List.set_cons_succ]
                    refine wpAnyS_take (i := 17) (oi := ?oih18) (v := undef) ?hih18 (by kernel_rfl) (by kernel_rfl) (by kernel_rfl) (lateK_iff (by rfl)) ?hqh18 ?hyh18 hCh17 hSh17 ?resth18
                    case hih18 => simp only [List.getElem?_toArray, List.getElem?_cons_succ, List.getElem?_cons_zero, Option.some.injEq]; rfl
                    case hqh18 => exact fun _ _ _ h => h
                    case hyh18 => exact Or.inr ⟨by kernel_rfl, rfl⟩
                    intro hCh18 hSh18
                    clear hCh17 hSh17
                    try simp only [Go.Act.put, List.setIfInBounds_toArray, List.set_cons_zero, List.set_cons_succ]
                    refine wpAnyS_take (i := 18) (oi := ?oih19) (v := .bool false) ?hih19 (by kernel_rfl) (by kernel_rfl) (by kernel_rfl) (lateK_iff (by rfl)) ?hqh19 ?hyh19 hCh18 hSh18 ?resth19
                    case hih19 => simp only [List.getElem?_toArray, List.getElem?_cons_succ, List.getElem?_cons_zero, Option.some.injEq]; rfl
                    case hqh19 => exact fun _ _ _ h => h
                    case hyh19 =>
                      refine Or.inl ⟨by kernel_rfl, fun V hV => ?_⟩
                      clear hV
                      go_simp
                    intro hCh19 hSh19
                    clear hCh18 hSh18
                    try simp only [Go.Act.put, List.setIfInBounds_toArray, List.set_cons_zero, List.set_cons_succ]
                    refine wpAnyS_done (by kernel_rfl) ?_ _
                    clear hCh19 hSh19
                    clear gdd
                    go_wp2_with fail
                    go_roundw
                    case rel => exact ⟨k + 1, N + 1, _, _, rfl, rfl, by go_num, HKL.out, NK.out, grown_trans HG.out gd, E1.out.kept gd (Classical.em _), E2.out.kept gd (Classical.em _), mblock_at F1.out gd (by simp), mblock_at F2.out gd (by simp), mblock_at F3.out gd (by simp), mblock_at F4.out gd (by simp), (fun r e => by injection e with e; subst e; exact FAR.out.1), (fun r e => by injection e with e; subst e; exact FAR.out.2.1), (fun r e h => by injection e with e; injection h with h; subst e; exact FAR.out.2.2 h.symm)⟩
                    case measure => simp [intOf]; omega
            · have hke : k = gs.length := by omega
              subst hke
              have hnl : FL.length = N := by rw [← hN.out, HFL.out]
              have G5 := Lib.hid hg.out; have C1 := Lib.hid hb1.out; have C2 := Lib.hid hb2.out
              have UB4 : Hid (∀ r, u.ownBlock = some r → w.heap.size + 2 ≤ r) := fun r e => (hub.out r e).1
              have C6 : Hid (wg.ownsRow w.heap.size 42 3 u (crsK (SLc gs ss) ss (j + 1)).length ((crsK (SLc gs ss) ss (j + 1)).flatMap crsCs)) := by
                have q := hol.out
                show World.ownsRow _ _ _ _ _ _ _
                rw [CRK.out, hnl, List.length_append, List.length_map, (stI_is _ _).len, HCN.out]
                exact q
              clear hg hol hop hb1 hb2 hub hbx hby htb hut hN
              have ml := HML.out
              go_wp2_with fail
              go_roundw
              case rel => exact ⟨j + 1, m + 1, u, rfl, by go_num, by show _ = _; rw [HM.out], by have := HM.out; show _ ≤ _; omega, G5.out, C6.out, C1.out, C2.out, UB4.out⟩
              case measure => simp [intOf]; omega
      · have hje : j = ss.length - 1 := by have := hm.out; have := hj.out; omega
        have hno : ¬ (m : Int) < (ss.length : Int) := by omega
        have C6 := Lib.hid ho.out; have G5 := Lib.hid hg.out
        have y3 := mblock_cell hb2.out 3 _ rfl
        have HJE := Lib.hid hje
        clear hg ho hb1 hb2 hvb hm hj hje hlt
        go_wp2_with fail
        go_ret2
        refine ⟨⟨v, rfl, ?_⟩, G5.out⟩
        rw [HLE.out, ← HJE.out]; exact C6.out
  · have g2 : (E != 0) = true := by simpa using d2
    have HN : Hid (crsL (SLc gs ss) ⟨snm, sgo, sgc, gs⟩ ⟨nm, sp, st, so, sc, ss, lo, lc, ls, to_, tc, ts⟩ = []) := by
      show _ = _
      unfold crsL; rw [if_neg (by rw [hE.out]; exact d2)]
    clear d2
    go_wp2_with fail
    go_ret2
    refine ⟨⟨.slice none 0 0, rfl, ?_⟩, G3.out⟩
    rw [HN.out]; exact World.ownsRow_nil _ _ _ _
end Go.Proofs.Ytckelojdjmaliaa
