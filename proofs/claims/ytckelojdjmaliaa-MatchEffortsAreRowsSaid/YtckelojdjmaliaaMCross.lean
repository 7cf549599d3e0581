/- Crossings of the program, with the sorts as a hypothesis. -/
import Derived.Test.YtckelojdjmaliaaMPass
import Derived.Test.YtckelojdjmaliaaMSeg
import Derived.Test.YtckelojdjmaliaaTCheck
import Derived.Test.YtckelojdjmaliaaBaseA
import Derived.Test.YtckelojdjmaliaaQScale
import Derived.Deep.CutBlock
import Derived.Deep.DeepCutAuto
namespace Go.Proofs.Ytckelojdjmaliaa
open Go.RowKit
set_option linter.unusedSimpArgs false
set_option linter.unusedVariables false

attribute [local go_sem] Oper.semAt_some

structure Crs where
  gate : Int
  step : Int
  at_ : Int
  deriving DecidableEq, Inhabited
def crsCs (x : Crs) : List Value := [.int .i64 x.gate, .int .i64 x.step, .int .i64 x.at_]
def crs1 (p q : Smp) (j : Nat) (x : Psg) : Crs := ⟨x.gate, j, 1000 * p.t + (scaleV x.part (1000 * (q.t - p.t)) x.whole 1).1⟩
def crsK (SL : Nat → List Psg) (ss : List Smp) : Nat → List Crs
  | 0 => []
  | j + 1 => crsK SL ss j ++ (SL j).map (crs1 (smpD ss j) (smpD ss (j + 1)) j)
/-- A sorted list of passings of each step is as the sort makes it. -/
def StepsOk (gs : List Gt) (ss : List Smp) (SL : Nat → List Psg) : Prop := ∀ j, j + 1 < ss.length → SortOk (passK gs (smpPt (smpD ss j)) (smpPt (smpD ss (j + 1))) gs.length) (SL j) ∧ (SL j).Perm (passK gs (smpPt (smpD ss j)) (smpPt (smpD ss (j + 1))) gs.length)
theorem info_crs : (Try.prog.info? 42).map (fun i => (i.zero, i.size, i.bytes)) = some (some (.agg #[.int .i64 0, .int .i64 0, .int .i64 0]), 3, 24) := by kernel_rfl

structure PsgIn (x : Psg) : Prop where
  g0 : 0 ≤ x.gate
  g1 : x.gate < 50
  p0 : 1 ≤ x.part
  p1 : x.part ≤ x.whole
  w1 : x.whole ≤ 160000000000000000
theorem passK_in {gs : List Gt} (hgs : ∀ g ∈ gs, gate1 g = 0) {p q : Pt} (hp : onP p) (hq : onP q) : ∀ k, k ≤ gs.length → gs.length ≤ 50 → ∀ x ∈ passK gs p q k, PsgIn x
  | 0, _, _, x, hx => by cases hx
  | k + 1, hk, hl, x, hx => by
    simp only [passK] at hx
    rcases List.mem_append.1 hx with hx | hx
    · exact passK_in hgs hp hq k (by omega) hl x hx
    · unfold pas1 at hx
      split at hx
      · rename_i hc
        have hg := hgs gs[k] (List.getElem_mem (by omega))
        rw [← gtD_at (by omega)] at hg
        have hin := gate1_in hg
        have hA : onP (gtD gs k).A := hin.1
        have hB : onP (gtD gs k).B := hin.2
        have b1 := sideV_bd hA hB hp; have b2 := sideV_bd hA hB hq
        unfold crosB at hc
        simp only [Bool.and_eq_true, decide_eq_true_eq] at hc
        rw [List.mem_singleton] at hx
        subst hx
        exact ⟨by simp only; omega, by simp only; omega, by simp only; omega, by simp only; omega, by simp only; omega⟩
      · cases hx
theorem scale_down {a num den : Int} (a0 : 1 ≤ a) (a1 : a ≤ den) (n0 : 0 ≤ num) (n1 : num ≤ 1000000000) : 0 ≤ (scaleV a num den 1).1 ∧ (scaleV a num den 1).1 ≤ num := by
  have h0 : 0 ≤ a * num := Int.mul_nonneg (by omega) n0
  have h1 : a * num ≤ den * num := Int.mul_le_mul_of_nonneg_right a1 n0
  have d0 : 0 ≤ a * num / den := Int.ediv_nonneg h0 (by omega)
  have d1 : a * num / den ≤ num := by
    have := Int.ediv_le_ediv (c := den) (by omega) h1
    rwa [Int.mul_ediv_cancel_left _ (by omega)] at this
  have e : rndV 1 (a * num) den = a * num / den := by unfold rndV upB; simp
  have e2 : scaleV a num den 1 = (rndV 1 (a * num) den, 0) := by
    unfold scaleV big
    rw [if_neg (by omega), if_neg (by omega), if_neg (by omega)]
  rw [e2, e]
  exact ⟨d0, d1⟩
theorem smp_plane {ss : List Smp} (h : SOk ss) {i : Nat} (hi : i < ss.length) : onP (smpPt (smpD ss i)) := (h.inn i hi).2.2.1

theorem crsK_len {SL : Nat → List Psg} {ss : List Smp} (h : ∀ j, j + 1 < ss.length → (SL j).length ≤ 50) : ∀ j, j < ss.length → (crsK SL ss j).length ≤ 50 * j
  | 0, _ => Nat.le_refl _
  | j + 1, hj => by
    have := crsK_len h j (by omega); have := h j hj
    simp only [crsK, List.length_append, List.length_map]; omega

def crsE (s : Seg) (a : Act) : Int := if segE s.name s.gs = 0 then chkE a else segE s.name s.gs
def crsL (SL : Nat → List Psg) (s : Seg) (a : Act) : List Crs := if crsE s a = 0 then crsK SL a.ss (a.ss.length - 1) else []

set_option maxRecDepth 100000 in
set_option maxHeartbeats 12800000 in
theorem Crossings_is (s : Seg) (a : Act) (w : World) (hs : SegAt w s) (ha : ActAt w a) (SL : Nat → List Psg) (hSL : crsE s a = 0 → StepsOk s.gs a.ss SL) {E : Int} (hE : Hid (crsE s a = E)) :
    Calls Try.prog 15 #[s.val, a.val] w fun e w' => (∃ v, e = .returned (.tuple #[v, .int .i64 E]) ∧ w'.ownsRow w.heap.size 42 3 v (crsL SL s a).length ((crsL SL s a).flatMap crsCs)) ∧ w.grownBy w' none := by
  obtain ⟨i0, hi, hz0, hz1, hz2⟩ := info_parts info_crs
  have HI := Lib.hid hi; have HZ0 := Lib.hid hz0; have HZ1 := Lib.hid hz1; have HZ2 := Lib.hid hz2
  have HS := Lib.hid hs; have HA := Lib.hid ha; have HSL := Lib.hid hSL
  have hv := hE.out
  clear hi hz0 hz1 hz2 hs ha hSL
  obtain ⟨snm, sgo, sgc, gs⟩ := s
  obtain ⟨nm, sp, st, so, sc, ss, lo, lc, ls, to_, tc, ts⟩ := a
  obtain ⟨e1, he1⟩ : ∃ e, segE snm gs = e := ⟨_, rfl⟩
  obtain ⟨e2, he2⟩ : ∃ e, chkE ⟨nm, sp, st, so, sc, ss, lo, lc, ls, to_, tc, ts⟩ = e := ⟨_, rfl⟩
  have HE1 := Lib.hid he1; have HE2 := Lib.hid he2
  unfold crsE at hv
  simp only at hv
  rw [he1, he2] at hv
  have HV := Lib.hid hv
  clear hv he1 he2
  simp only [Seg.val, Act.val] at *
  have B1 : Hid (((w.alloc (.cells #[.string snm, .slice sgo gs.length sgc] 24)).alloc (.cells #[.string nm, .int .i64 sp, .int .i64 st, .slice so ss.length sc, .slice lo ls.length lc, .slice to_ ts.length tc] 36)).heap[w.heap.size]? = some (.cells #[.string snm, .slice sgo gs.length sgc] 24 (0, 0))) := mblock_at (mheap_new w _) (World.grownBy_alloc _ _ none) (by simp)
  have B2 : Hid (((w.alloc (.cells #[.string snm, .slice sgo gs.length sgc] 24)).alloc (.cells #[.string nm, .int .i64 sp, .int .i64 st, .slice so ss.length sc, .slice lo ls.length lc, .slice to_ ts.length tc] 36)).heap[w.heap.size + 1]? = some (.cells #[.string nm, .int .i64 sp, .int .i64 st, .slice so ss.length sc, .slice lo ls.length lc, .slice to_ ts.length tc] 36 (0, 0))) := by
    have q := mheap_new (w.alloc (.cells #[.string snm, .slice sgo gs.length sgc] 24)) (.cells #[.string nm, .int .i64 sp, .int .i64 st, .slice so ss.length sc, .slice lo ls.length lc, .slice to_ ts.length tc] 36)
    rw [show (w.alloc (.cells #[.string snm, .slice sgo gs.length sgc] 24)).heap.size = w.heap.size + 1 from by simp] at q; exact q
  have G1 : Hid (w.grownBy ((w.alloc (.cells #[.string snm, .slice sgo gs.length sgc] 24)).alloc (.cells #[.string nm, .int .i64 sp, .int .i64 st, .slice so ss.length sc, .slice lo ls.length lc, .slice to_ ts.length tc] 36)) none) := grown_trans (World.grownBy_alloc _ _ _) (World.grownBy_alloc _ _ _)
  go_enter Try.func15, Try.ntmps15
  go_wp2_with fail
  generalize ((w.alloc (.cells #[.string snm, .slice sgo gs.length sgc] 24)).alloc (.cells #[.string nm, .int .i64 sp, .int .i64 st, .slice so ss.length sc, .slice lo ls.length lc, .slice to_ ts.length tc] 36)) = w1 at *
  refine (checkSeg_is ⟨snm, sgo, sgc, gs⟩ _ (HS.out.grown G1.out) HE1).mono ?_; rintro e w2 ⟨rfl, hg2⟩
  have G2 := Lib.hid (grown_trans G1.out hg2)
  have B3 := Lib.hid (mblock_at B1.out hg2 (by simp)); have B4 := Lib.hid (mblock_at B2.out hg2 (by simp))
  clear hg2 G1 B1 B2
  by_cases d1 : e1 = 0
  · subst d1
    have hv := HV.out
    rw [if_pos rfl] at hv
    have HV2 := Lib.hid hv
    clear hv HV
    have y0 := mblock_cell B4.out 0 _ rfl
    have y1 := mblock_cell B4.out 1 _ rfl
    have y2 := mblock_cell B4.out 2 _ rfl
    have y3 := mblock_cell B4.out 3 _ rfl
    have y4 := mblock_cell B4.out 4 _ rfl
    have y5 := mblock_cell B4.out 5 _ rfl
    go_wp2_with fail
    refine (check_any ⟨nm, sp, st, so, sc, ss, lo, lc, ls, to_, tc, ts⟩ _ (HA.out.grown G2.out) HE2).mono ?_; rintro e w3 ⟨rfl, hg3⟩
    have G3 := Lib.hid (grown_trans G2.out hg3)
    have B5 := Lib.hid (mblock_at B3.out hg3 (by simp)); have B6 := Lib.hid (mblock_at B4.out hg3 (by simp))
    clear hg3 G2 B3 B4 y0 y1 y2 y3 y4 y5
    by_cases d2 : e2 = 0
    · subst d2
      obtain rfl : E = 0 := HV2.out.symm
      have HLE : Hid (crsL SL ⟨snm, sgo, sgc, gs⟩ ⟨nm, sp, st, so, sc, ss, lo, lc, ls, to_, tc, ts⟩ = crsK SL ss (ss.length - 1)) := by
        show _ = _
        unfold crsL; rw [if_pos hE.out]
      have ST : Hid (StepsOk gs ss SL) := HSL.out hE.out
      have HOK := Lib.hid (sok_of (chk_ok HE2.out))
      have hsegs : (2 ≤ gs.length ∧ gs.length ≤ 50) ∧ gatesE gs = 0 := by
        have q := HE1.out
        unfold segE at q
        split at q
        · split at q
          · rename_i h; exact ⟨h, q⟩
          · omega
        · omega
      have HGS : Hid (∀ g ∈ gs, gate1 g = 0) := gatesE_zero.1 hsegs.2
      have HGL : Hid (gs.length ≤ 50) := hsegs.1.2
      have hl0 : (ss.length : Int) ≤ 20000 := HOK.out.len
      have hln : ss.length ≤ 20000 := by omega
      have PLA : Hid (∀ j, j + 1 < ss.length → (SL j).length ≤ 50) := fun j hj => by
        have q := (ST.out j hj).2.length_eq; have := passK_len gs (smpPt (smpD ss j)) (smpPt (smpD ss (j + 1))) gs.length; have := HGL.out
        omega
      clear hsegs HV2 HSL hl0
      have y3 := mblock_cell B6.out 3 _ rfl
      go_wp2_with fail
      clear y3
      go_loopw [8, 9] (fun lv iv wr => ∃ (j m : Nat) (v : Value), v = lv ∧ iv = .int .i64 m ∧ Hid (m = j + 1) ∧ Hid (j ≤ ss.length - 1) ∧ Hid (w.grownBy wr none) ∧ Hid (wr.ownsRow w.heap.size 42 3 v (crsK SL ss j).length ((crsK SL ss j).flatMap crsCs)) ∧ Hid (wr.heap[w.heap.size]? = some (.cells #[.string snm, .slice sgo gs.length sgc] 24 (0, 0))) ∧ Hid (wr.heap[w.heap.size + 1]? = some (.cells #[.string nm, .int .i64 sp, .int .i64 st, .slice so ss.length sc, .slice lo ls.length lc, .slice to_ ts.length tc] 36 (0, 0))) ∧ Hid (∀ r, v.ownBlock = some r → w.heap.size + 2 ≤ r)) (fun _ iv _ => ss.length - (intOf iv).toNat)
      case atStart => exact ⟨0, 1, _, rfl, rfl, rfl, Nat.zero_le _, G3.out, World.ownsRow_nil _ _ _ _, B5.out, B6.out, fun r e => by cases e⟩
      case round =>
        obtain ⟨j, m, v, rfl, rfl, hm, hj, hg, ho, hb1, hb2, hvb⟩ := hrel
        clear G3 B5 B6
        obtain ⟨wo, hwo⟩ : ∃ W : World, W = wr := ⟨_, rfl⟩
        subst hwo
        by_cases hlt : m < ss.length
        · have hjm := hm.out
          have hjl : j < ss.length := by omega
          obtain ⟨b, off, hso, qs⟩ := smps_at1 (HA.out.hs.grown hg.out) (show 0 < ss.length by omega)
          simp only at hso
          subst hso
          obtain ⟨p0, p1, p2, p3, p4, p5, p6⟩ := qs j hjl
          obtain ⟨q0, q1, q2, q3, q4, q5, q6⟩ := qs m hlt
          rw [← smpD_at hjl] at p0 p1 p2 p3 p4 p5 p6
          rw [← smpD_at hlt] at q0 q1 q2 q3 q4 q5 q6
          have em : (m : Int) - 1 = (j : Int) := by omega
          have rk : IntKind.i64.wrap (j : Int) = (j : Int) := IntWalk.i64_in _ (by omega)
          have ml : (m : Int) < (ss.length : Int) := by omega
          have jl : (j : Int) < (ss.length : Int) := by omega
          have hst := ST.out j (by omega)
          rw [← hjm] at hst
          have hup := HOK.out.up j (by omega)
          rw [← hjm] at hup
          have tp := (HOK.out.inn j hjl); have tq := (HOK.out.inn m hlt)
          have PP : Hid (onP (smpPt (smpD ss j))) := smp_plane HOK.out hjl
          have PQ : Hid (onP (smpPt (smpD ss m))) := smp_plane HOK.out hlt
          have CRK : Hid (crsK SL ss (j + 1) = crsK SL ss j ++ (SL j).map (crs1 (smpD ss j) (smpD ss m) j)) := by show _ = _; rw [hjm]; rfl
          have TT : Hid (0 ≤ (smpD ss j).t ∧ (smpD ss j).t < (smpD ss m).t ∧ (smpD ss m).t ≤ 1000000) := ⟨tp.1, hup, tq.2.1⟩
          have SRT := Lib.hid hst.1
          have PRM := Lib.hid hst.2
          have HM := Lib.hid hjm; have HML := Lib.hid hlt; have HG := Lib.hid hg.out; have HO := Lib.hid ho.out; have HB1 := Lib.hid hb1.out; have HB2 := Lib.hid hb2.out; have HVB := Lib.hid hvb.out
          have PIN : Hid (∀ x ∈ SL j, PsgIn x) := fun x hx => passK_in HGS.out PP.out PQ.out gs.length (Nat.le_refl _) HGL.out x (PRM.out.mem_iff.1 hx)
          have PLN : Hid ((SL j).length ≤ 50) := by
            have q := PRM.out.length_eq; have := passK_len gs (smpPt (smpD ss j)) (smpPt (smpD ss m)) gs.length; have := HGL.out
            show _ ≤ _; omega
          clear qs hst hup tp tq hm hj hg ho hb1 hb2 hvb hjm
          generalize smpD ss j = P at *
          generalize smpD ss m = Q at *
          obtain ⟨pt, px, py, pz, pp, pq, ps⟩ := P
          obtain ⟨qt, qx, qy, qz, qp, qq, qs⟩ := Q
          simp only at p0 p1 p2 p3 p4 p5 p6 q0 q1 q2 q3 q4 q5 q6
          have TT2 : Hid (0 ≤ pt ∧ pt < qt ∧ qt ≤ 1000000) := TT.out
          clear TT
          generalize SL j = L at *
          have y3 := mblock_cell HB2.out 3 _ rfl
          go_upto_region 11 with (fail)
          go_cut [10, 11] (fun s10 s11 wx => ∃ X Y, s10 = .pointer (some ⟨X, 0, none⟩) ∧ s11 = .pointer (some ⟨Y, 0, none⟩) ∧ Hid (wx.heap[X]? = some (.cells #[.int .i64 pt, .int .i64 px, .int .i64 py, .int .i64 pz, .int .i64 pp, .int .i64 pq, .int .i64 ps] 79 (0, 0))) ∧ Hid (wx.heap[Y]? = some (.cells #[.int .i64 qt, .int .i64 qx, .int .i64 qy, .int .i64 qz, .int .i64 qp, .int .i64 qq, .int .i64 qs] 79 (0, 0))) ∧ Hid (wo.grownBy wx none) ∧ Hid (wo.heap.size ≤ X ∧ wo.heap.size ≤ Y))
          case first =>
            have gd : wo.grownBy wo.drew none := grown_drewN wo none 1
            refine region_late (lateK (fun V => wo.grownBy V none) []) (by kernel_rfl) gd (fun hC0 hS0 => ?_)
            have gd := Lib.hid gd
            generalize wo.drew = wd at *
            refine wpAnyS_take (i := 0) (oi := ?oi1) (v := .pointer (some ⟨w.heap.size + 1, 3, none⟩)) ?hi1 (by kernel_rfl) (by kernel_rfl) (by kernel_rfl) (lateK_iff (by rfl)) ?hq1 ?hy1 hC0 hS0 ?rest1
            case hi1 => simp only [List.getElem?_toArray, List.getElem?_cons_succ, List.getElem?_cons_zero, Option.some.injEq]; rfl
            case hq1 => exact fun _ _ _ h => h
            case hy1 =>
              refine Or.inl ⟨by kernel_rfl, fun V hV => ?_⟩
              clear hV
              go_simp
            intro hC1 hS1
            clear hC0 hS0
            try simp only [Go.Act.put, List.setIfInBounds_toArray, List.set_cons_zero, List.set_cons_succ]
            refine wpAnyS_take (i := 1) (oi := ?oi2) (v := .slice (some ⟨b, off, none⟩) ss.length sc) ?hi2 (by kernel_rfl) (by kernel_rfl) (by kernel_rfl) (lateK_iff (by rfl)) ?hq2 ?hy2 hC1 hS1 ?rest2
            case hi2 => simp only [List.getElem?_toArray, List.getElem?_cons_succ, List.getElem?_cons_zero, Option.some.injEq]; rfl
            case hq2 => exact fun _ _ _ h => h
            case hy2 =>
              refine Or.inl ⟨by kernel_rfl, fun V hV => ?_⟩
              have gV := lateK_g hV; have z9 := grown_cell gV y3; clear gV; clear hV
              go_simp
            intro hC2 hS2
            clear hC1 hS1
            try simp only [Go.Act.put, List.setIfInBounds_toArray, List.set_cons_zero, List.set_cons_succ]
            refine wpAnyS_take (i := 2) (oi := ?oi3) (v := .int .i64 (m : Int)) ?hi3 (by kernel_rfl) (by kernel_rfl) (by kernel_rfl) (lateK_iff (by rfl)) ?hq3 ?hy3 hC2 hS2 ?rest3
            case hi3 => simp only [List.getElem?_toArray, List.getElem?_cons_succ, List.getElem?_cons_zero, Option.some.injEq]; rfl
            case hq3 => exact fun _ _ _ h => h
            case hy3 =>
              refine Or.inl ⟨by kernel_rfl, fun V hV => ?_⟩
              clear hV
              go_simp
            intro hC3 hS3
            clear hC2 hS2
            try simp only [Go.Act.put, List.setIfInBounds_toArray, List.set_cons_zero, List.set_cons_succ]
            refine wpAnyS_take (i := 3) (oi := ?oi4) (v := .int .i64 (j : Int)) ?hi4 (by kernel_rfl) (by kernel_rfl) (by kernel_rfl) (lateK_iff (by rfl)) ?hq4 ?hy4 hC3 hS3 ?rest4
            case hi4 => simp only [List.getElem?_toArray, List.getElem?_cons_succ, List.getElem?_cons_zero, Option.some.injEq]; rfl
            case hq4 => exact fun _ _ _ h => h
            case hy4 =>
              refine Or.inl ⟨by kernel_rfl, fun V hV => ?_⟩
              clear hV
              go_simp
            intro hC4 hS4
            clear hC3 hS3
            try simp only [Go.Act.put, List.setIfInBounds_toArray, List.set_cons_zero, List.set_cons_succ]
            refine wpAnyS_take (i := 4) (oi := ?oi5) (v := .pointer (some ⟨b, off + j * 7, none⟩)) ?hi5 (by kernel_rfl) (by kernel_rfl) (by kernel_rfl) (lateK_iff (by rfl)) ?hq5 ?hy5 hC4 hS4 ?rest5
            case hi5 => simp only [List.getElem?_toArray, List.getElem?_cons_succ, List.getElem?_cons_zero, Option.some.injEq]; rfl
            case hq5 => exact fun _ _ _ h => h
            case hy5 =>
              refine Or.inl ⟨by kernel_rfl, fun V hV => ?_⟩
              clear hV
              go_simp
            intro hC5 hS5
            clear hC4 hS4
            try simp only [Go.Act.put, List.setIfInBounds_toArray, List.set_cons_zero, List.set_cons_succ]
            refine wpAnyS_take (i := 5) (oi := ?oi6) (v := .agg #[.int .i64 pt, .int .i64 px, .int .i64 py, .int .i64 pz, .int .i64 pp, .int .i64 pq, .int .i64 ps]) ?hi6 (by kernel_rfl) (by kernel_rfl) (by kernel_rfl) (lateK_iff (by rfl)) ?hq6 ?hy6 hC5 hS5 ?rest6
            case hi6 => simp only [List.getElem?_toArray, List.getElem?_cons_succ, List.getElem?_cons_zero, Option.some.injEq]; rfl
            case hq6 => exact fun _ _ _ h => h
            case hy6 =>
              refine Or.inl ⟨by kernel_rfl, fun V hV => ?_⟩
              have gV := lateK_g hV; have zz0 := grown_cell gV p0; have zz1 := grown_cell gV p1; have zz2 := grown_cell gV p2; have zz3 := grown_cell gV p3; have zz4 := grown_cell gV p4; have zz5 := grown_cell gV p5; have zz6 := grown_cell gV p6; clear gV; clear hV
              go_simp
            intro hC6 hS6
            clear hC5 hS5
            try simp only [Go.Act.put, List.setIfInBounds_toArray, List.set_cons_zero, List.set_cons_succ]
            refine wpAnyS_take (i := 6) (oi := ?oi7) (v := .pointer (some ⟨w.heap.size + 1, 3, none⟩)) ?hi7 (by kernel_rfl) (by kernel_rfl) (by kernel_rfl) (lateK_iff (by rfl)) ?hq7 ?hy7 hC6 hS6 ?rest7
            case hi7 => simp only [List.getElem?_toArray, List.getElem?_cons_succ, List.getElem?_cons_zero, Option.some.injEq]; rfl
            case hq7 => exact fun _ _ _ h => h
            case hy7 =>
              refine Or.inl ⟨by kernel_rfl, fun V hV => ?_⟩
              clear hV
              go_simp
            intro hC7 hS7
            clear hC6 hS6
            try simp only [Go.Act.put, List.setIfInBounds_toArray, List.set_cons_zero, List.set_cons_succ]
            refine wpAnyS_take (i := 7) (oi := ?oi8) (v := .slice (some ⟨b, off, none⟩) ss.length sc) ?hi8 (by kernel_rfl) (by kernel_rfl) (by kernel_rfl) (lateK_iff (by rfl)) ?hq8 ?hy8 hC7 hS7 ?rest8
            case hi8 => simp only [List.getElem?_toArray, List.getElem?_cons_succ, List.getElem?_cons_zero, Option.some.injEq]; rfl
            case hq8 => exact fun _ _ _ h => h
            case hy8 =>
              refine Or.inl ⟨by kernel_rfl, fun V hV => ?_⟩
              have gV := lateK_g hV; have z9 := grown_cell gV y3; clear gV; clear hV
              go_simp
            intro hC8 hS8
            clear hC7 hS7
            try simp only [Go.Act.put, List.setIfInBounds_toArray, List.set_cons_zero, List.set_cons_succ]
            refine wpAnyS_take (i := 8) (oi := ?oi9) (v := .int .i64 (m : Int)) ?hi9 (by kernel_rfl) (by kernel_rfl) (by kernel_rfl) (lateK_iff (by rfl)) ?hq9 ?hy9 hC8 hS8 ?rest9
            case hi9 => simp only [List.getElem?_toArray, List.getElem?_cons_succ, List.getElem?_cons_zero, Option.some.injEq]; rfl
            case hq9 => exact fun _ _ _ h => h
            case hy9 =>
              refine Or.inl ⟨by kernel_rfl, fun V hV => ?_⟩
              clear hV
              go_simp
            intro hC9 hS9
            clear hC8 hS8
            try simp only [Go.Act.put, List.setIfInBounds_toArray, List.set_cons_zero, List.set_cons_succ]
            refine wpAnyS_take (i := 9) (oi := ?oi10) (v := .pointer (some ⟨b, off + m * 7, none⟩)) ?hi10 (by kernel_rfl) (by kernel_rfl) (by kernel_rfl) (lateK_iff (by rfl)) ?hq10 ?hy10 hC9 hS9 ?rest10
            case hi10 => simp only [List.getElem?_toArray, List.getElem?_cons_succ, List.getElem?_cons_zero, Option.some.injEq]; rfl
            case hq10 => exact fun _ _ _ h => h
            case hy10 =>
              refine Or.inl ⟨by kernel_rfl, fun V hV => ?_⟩
              clear hV
              go_simp
            intro hC10 hS10
            clear hC9 hS9
            try simp only [Go.Act.put, List.setIfInBounds_toArray, List.set_cons_zero, List.set_cons_succ]
            refine wpAnyS_take (i := 10) (oi := ?oi11) (v := .agg #[.int .i64 qt, .int .i64 qx, .int .i64 qy, .int .i64 qz, .int .i64 qp, .int .i64 qq, .int .i64 qs]) ?hi11 (by kernel_rfl) (by kernel_rfl) (by kernel_rfl) (lateK_iff (by rfl)) ?hq11 ?hy11 hC10 hS10 ?rest11
            case hi11 => simp only [List.getElem?_toArray, List.getElem?_cons_succ, List.getElem?_cons_zero, Option.some.injEq]; rfl
            case hq11 => exact fun _ _ _ h => h
            case hy11 =>
              refine Or.inl ⟨by kernel_rfl, fun V hV => ?_⟩
              have gV := lateK_g hV; have zz0 := grown_cell gV q0; have zz1 := grown_cell gV q1; have zz2 := grown_cell gV q2; have zz3 := grown_cell gV q3; have zz4 := grown_cell gV q4; have zz5 := grown_cell gV q5; have zz6 := grown_cell gV q6; clear gV; clear hV
              go_simp
            intro hC11 hS11
            clear hC10 hS10
            try simp only [Go.Act.put, List.setIfInBounds_toArray, List.set_cons_zero, List.set_cons_succ]
            refine wpAnyS_ready (rs := [11, 12]) (by kernel_rfl) (by simp) ?_
            refine AllReadyS.cons rfl hC11 (fun K hK => ?b9) (AllReadyS.cons rfl hC11 (fun K hK => ?b10) AllReadyS.nil)
            case b9 =>
              go_simp
              obtain ⟨X, hX⟩ : ∃ B, wd.heap.size = B := ⟨_, rfl⟩
              obtain ⟨V1, hV1⟩ : ∃ V, wd.alloc (.cells #[.int .i64 0, .int .i64 0, .int .i64 0, .int .i64 0, .int .i64 0, .int .i64 0, .int .i64 0] 79) = V := ⟨_, rfl⟩
              have B1 : Hid (V1.heap[X]? = some (.cells #[.int .i64 0, .int .i64 0, .int .i64 0, .int .i64 0, .int .i64 0, .int .i64 0, .int .i64 0] 79 (0, 0))) := by show _; rw [← hV1, ← hX]; exact mheap_new _ _
              have G1 : Hid (wo.grownBy V1 none) := by show _; rw [← hV1]; exact grown_trans gd.out (World.grownBy_alloc _ _ _)
              have P1 : Hid (wo.heap.size ≤ X) := by have := gd.out.size; show _ ≤ _; omega
              rw [hV1, hX]
              clear hV1 hX
              refine hK.out _ _ G1.out (fun hCa1 hSa1 => ?_)
              clear hK K hC11 hS11
              try simp only [Go.Act.put, List.setIfInBounds_toArray, List.set_cons_zero, List.set_cons_succ]
              refine wpAnyS_ready (rs := [12]) (by kernel_rfl) (by simp) ?_
              refine AllReadyS.cons rfl hCa1 (fun K hK => ?_) AllReadyS.nil
              go_simp
              obtain ⟨Y, hY⟩ : ∃ B, V1.heap.size = B := ⟨_, rfl⟩
              obtain ⟨V2, hV2⟩ : ∃ V, V1.alloc (.cells #[.int .i64 0, .int .i64 0, .int .i64 0, .int .i64 0, .int .i64 0, .int .i64 0, .int .i64 0] 79) = V := ⟨_, rfl⟩
              have B2 : Hid (V2.heap[Y]? = some (.cells #[.int .i64 0, .int .i64 0, .int .i64 0, .int .i64 0, .int .i64 0, .int .i64 0, .int .i64 0] 79 (0, 0))) := by show _; rw [← hV2, ← hY]; exact mheap_new _ _
              have NE : Hid (X ≠ Y) := by have := lt_of_block B1.out; show _ ≠ _; omega
              replace B1 : Hid (V2.heap[X]? = some (.cells #[.int .i64 0, .int .i64 0, .int .i64 0, .int .i64 0, .int .i64 0, .int .i64 0, .int .i64 0] 79 (0, 0))) := by show _; rw [← hV2]; exact mblock_at (row := none) B1.out (World.grownBy_alloc _ _ _) (by simp)
              have P2 : Hid (wo.heap.size ≤ Y) := by have := G1.out.size; show _ ≤ _; omega
              replace G1 : Hid (wo.grownBy V2 none) := by show _; rw [← hV2]; exact grown_trans G1.out (World.grownBy_alloc _ _ _)
              rw [hV2, hY]
              clear hV2 hY
              refine hK.out _ _ G1.out (fun hCa2 hSa2 => ?_)
              clear hK K hCa1 hSa1
              try simp only [Go.Act.put, List.setIfInBounds_toArray, List.set_cons_zero, List.set_cons_succ]
              refine wpAnyS_ready (rs := [13]) (by kernel_rfl) (by simp) ?_
              refine AllReadyS.cons rfl hCa2 (fun K hK => ?_) AllReadyS.nil
              have z0 := mblock_cell B1.out 0 _ rfl
              have y0f := mblock_free (k := 0) B1.out
              have z1 := mblock_cell B1.out 1 _ rfl
              have y1f := mblock_free (k := 1) B1.out
              have z2 := mblock_cell B1.out 2 _ rfl
              have y2f := mblock_free (k := 2) B1.out
              have z3 := mblock_cell B1.out 3 _ rfl
              have y3f := mblock_free (k := 3) B1.out
              have z4 := mblock_cell B1.out 4 _ rfl
              have y4f := mblock_free (k := 4) B1.out
              have z5 := mblock_cell B1.out 5 _ rfl
              have y5f := mblock_free (k := 5) B1.out
              have z6 := mblock_cell B1.out 6 _ rfl
              have y6f := mblock_free (k := 6) B1.out
              go_simp
              obtain ⟨V3, hV⟩ : ∃ V, (((((((V2.setCell ⟨X, 0, none⟩ (.int .i64 pt)).setCell ⟨X, 1, none⟩ (.int .i64 px)).setCell ⟨X, 2, none⟩ (.int .i64 py)).setCell ⟨X, 3, none⟩ (.int .i64 pz)).setCell ⟨X, 4, none⟩ (.int .i64 pp)).setCell ⟨X, 5, none⟩ (.int .i64 pq)).setCell ⟨X, 6, none⟩ (.int .i64 ps)) = V := ⟨_, rfl⟩
              replace B1 : Hid (V3.heap[X]? = some (.cells #[.int .i64 pt, .int .i64 px, .int .i64 py, .int .i64 pz, .int .i64 pp, .int .i64 pq, .int .i64 ps] 79 (0, 0))) := by show _; rw [← hV]; exact (mblock_set (mblock_set (mblock_set (mblock_set (mblock_set (mblock_set (mblock_set B1.out _) _) _) _) _) _) _)
              replace B2 : Hid (V3.heap[Y]? = some (.cells #[.int .i64 0, .int .i64 0, .int .i64 0, .int .i64 0, .int .i64 0, .int .i64 0, .int .i64 0] 79 (0, 0))) := by show _; rw [← hV]; exact (mblock_far (mblock_far (mblock_far (mblock_far (mblock_far (mblock_far (mblock_far B2.out (Ne.symm NE.out) _ _) (Ne.symm NE.out) _ _) (Ne.symm NE.out) _ _) (Ne.symm NE.out) _ _) (Ne.symm NE.out) _ _) (Ne.symm NE.out) _ _) (Ne.symm NE.out) _ _)
              replace G1 : Hid (wo.grownBy V3 none) := by show _; rw [← hV]; exact (mgrown_set (mgrown_set (mgrown_set (mgrown_set (mgrown_set (mgrown_set (mgrown_set G1.out P1.out _ _) P1.out _ _) P1.out _ _) P1.out _ _) P1.out _ _) P1.out _ _) P1.out _ _)
              rw [hV]
              clear hV z0 y0f z1 y1f z2 y2f z3 y3f z4 y4f z5 y5f z6 y6f
              refine hK.out _ _ G1.out (fun hCa3 hSa3 => ?_)
              clear hK K hCa2 hSa2
              try simp only [Go.Act.put, List.setIfInBounds_toArray, List.set_cons_zero, List.set_cons_succ]
              refine wpAnyS_ready (rs := [14]) (by kernel_rfl) (by simp) ?_
              refine AllReadyS.cons rfl hCa3 (fun K hK => ?_) AllReadyS.nil
              have z0 := mblock_cell B2.out 0 _ rfl
              have y0f := mblock_free (k := 0) B2.out
              have z1 := mblock_cell B2.out 1 _ rfl
              have y1f := mblock_free (k := 1) B2.out
              have z2 := mblock_cell B2.out 2 _ rfl
              have y2f := mblock_free (k := 2) B2.out
              have z3 := mblock_cell B2.out 3 _ rfl
              have y3f := mblock_free (k := 3) B2.out
              have z4 := mblock_cell B2.out 4 _ rfl
              have y4f := mblock_free (k := 4) B2.out
              have z5 := mblock_cell B2.out 5 _ rfl
              have y5f := mblock_free (k := 5) B2.out
              have z6 := mblock_cell B2.out 6 _ rfl
              have y6f := mblock_free (k := 6) B2.out
              go_simp
              obtain ⟨V4, hV⟩ : ∃ V, (((((((V3.setCell ⟨Y, 0, none⟩ (.int .i64 qt)).setCell ⟨Y, 1, none⟩ (.int .i64 qx)).setCell ⟨Y, 2, none⟩ (.int .i64 qy)).setCell ⟨Y, 3, none⟩ (.int .i64 qz)).setCell ⟨Y, 4, none⟩ (.int .i64 qp)).setCell ⟨Y, 5, none⟩ (.int .i64 qq)).setCell ⟨Y, 6, none⟩ (.int .i64 qs)) = V := ⟨_, rfl⟩
              replace B2 : Hid (V4.heap[Y]? = some (.cells #[.int .i64 qt, .int .i64 qx, .int .i64 qy, .int .i64 qz, .int .i64 qp, .int .i64 qq, .int .i64 qs] 79 (0, 0))) := by show _; rw [← hV]; exact (mblock_set (mblock_set (mblock_set (mblock_set (mblock_set (mblock_set (mblock_set B2.out _) _) _) _) _) _) _)
              replace B1 : Hid (V4.heap[X]? = some (.cells #[.int .i64 pt, .int .i64 px, .int .i64 py, .int .i64 pz, .int .i64 pp, .int .i64 pq, .int .i64 ps] 79 (0, 0))) := by show _; rw [← hV]; exact (mblock_far (mblock_far (mblock_far (mblock_far (mblock_far (mblock_far (mblock_far B1.out NE.out _ _) NE.out _ _) NE.out _ _) NE.out _ _) NE.out _ _) NE.out _ _) NE.out _ _)
              replace G1 : Hid (wo.grownBy V4 none) := by show _; rw [← hV]; exact (mgrown_set (mgrown_set (mgrown_set (mgrown_set (mgrown_set (mgrown_set (mgrown_set G1.out P2.out _ _) P2.out _ _) P2.out _ _) P2.out _ _) P2.out _ _) P2.out _ _) P2.out _ _)
              rw [hV]
              clear hV z0 y0f z1 y1f z2 y2f z3 y3f z4 y4f z5 y5f z6 y6f
              refine hK.out _ _ G1.out (fun hCa4 hSa4 => ?_)
              clear hK K hCa3 hSa3
              try simp only [Go.Act.put, List.setIfInBounds_toArray, List.set_cons_zero, List.set_cons_succ]
              refine wpAnyS_done (by kernel_rfl) ?_ _
              clear hCa4 hSa4
              go_wp2_with fail
              go_meet
              exact ⟨X, Y, rfl, rfl, B1, B2, G1, ⟨P1.out, P2.out⟩⟩
            case b10 =>
              go_simp
              obtain ⟨Y, hY⟩ : ∃ B, wd.heap.size = B := ⟨_, rfl⟩
              obtain ⟨V1, hV1⟩ : ∃ V, wd.alloc (.cells #[.int .i64 0, .int .i64 0, .int .i64 0, .int .i64 0, .int .i64 0, .int .i64 0, .int .i64 0] 79) = V := ⟨_, rfl⟩
              have B1 : Hid (V1.heap[Y]? = some (.cells #[.int .i64 0, .int .i64 0, .int .i64 0, .int .i64 0, .int .i64 0, .int .i64 0, .int .i64 0] 79 (0, 0))) := by show _; rw [← hV1, ← hY]; exact mheap_new _ _
              have G1 : Hid (wo.grownBy V1 none) := by show _; rw [← hV1]; exact grown_trans gd.out (World.grownBy_alloc _ _ _)
              have P1 : Hid (wo.heap.size ≤ Y) := by have := gd.out.size; show _ ≤ _; omega
              rw [hV1, hY]
              clear hV1 hY
              refine hK.out _ _ G1.out (fun hCb1 hSb1 => ?_)
              clear hK K hC11 hS11
              try simp only [Go.Act.put, List.setIfInBounds_toArray, List.set_cons_zero, List.set_cons_succ]
              refine wpAnyS_ready (rs := [11]) (by kernel_rfl) (by simp) ?_
              refine AllReadyS.cons rfl hCb1 (fun K hK => ?_) AllReadyS.nil
              go_simp
              obtain ⟨X, hX⟩ : ∃ B, V1.heap.size = B := ⟨_, rfl⟩
              obtain ⟨V2, hV2⟩ : ∃ V, V1.alloc (.cells #[.int .i64 0, .int .i64 0, .int .i64 0, .int .i64 0, .int .i64 0, .int .i64 0, .int .i64 0] 79) = V := ⟨_, rfl⟩
              have B2 : Hid (V2.heap[X]? = some (.cells #[.int .i64 0, .int .i64 0, .int .i64 0, .int .i64 0, .int .i64 0, .int .i64 0, .int .i64 0] 79 (0, 0))) := by show _; rw [← hV2, ← hX]; exact mheap_new _ _
              have NE : Hid (Y ≠ X) := by have := lt_of_block B1.out; show _ ≠ _; omega
              replace B1 : Hid (V2.heap[Y]? = some (.cells #[.int .i64 0, .int .i64 0, .int .i64 0, .int .i64 0, .int .i64 0, .int .i64 0, .int .i64 0] 79 (0, 0))) := by show _; rw [← hV2]; exact mblock_at (row := none) B1.out (World.grownBy_alloc _ _ _) (by simp)
              have P2 : Hid (wo.heap.size ≤ X) := by have := G1.out.size; show _ ≤ _; omega
              replace G1 : Hid (wo.grownBy V2 none) := by show _; rw [← hV2]; exact grown_trans G1.out (World.grownBy_alloc _ _ _)
              rw [hV2, hX]
              clear hV2 hX
              refine hK.out _ _ G1.out (fun hCb2 hSb2 => ?_)
              clear hK K hCb1 hSb1
              try simp only [Go.Act.put, List.setIfInBounds_toArray, List.set_cons_zero, List.set_cons_succ]
              refine wpAnyS_ready (rs := [13]) (by kernel_rfl) (by simp) ?_
              refine AllReadyS.cons rfl hCb2 (fun K hK => ?_) AllReadyS.nil
              have z0 := mblock_cell B2.out 0 _ rfl
              have y0f := mblock_free (k := 0) B2.out
              have z1 := mblock_cell B2.out 1 _ rfl
              have y1f := mblock_free (k := 1) B2.out
              have z2 := mblock_cell B2.out 2 _ rfl
              have y2f := mblock_free (k := 2) B2.out
              have z3 := mblock_cell B2.out 3 _ rfl
              have y3f := mblock_free (k := 3) B2.out
              have z4 := mblock_cell B2.out 4 _ rfl
              have y4f := mblock_free (k := 4) B2.out
              have z5 := mblock_cell B2.out 5 _ rfl
              have y5f := mblock_free (k := 5) B2.out
              have z6 := mblock_cell B2.out 6 _ rfl
              have y6f := mblock_free (k := 6) B2.out
              go_simp
              obtain ⟨V3, hV⟩ : ∃ V, (((((((V2.setCell ⟨X, 0, none⟩ (.int .i64 pt)).setCell ⟨X, 1, none⟩ (.int .i64 px)).setCell ⟨X, 2, none⟩ (.int .i64 py)).setCell ⟨X, 3, none⟩ (.int .i64 pz)).setCell ⟨X, 4, none⟩ (.int .i64 pp)).setCell ⟨X, 5, none⟩ (.int .i64 pq)).setCell ⟨X, 6, none⟩ (.int .i64 ps)) = V := ⟨_, rfl⟩
              replace B2 : Hid (V3.heap[X]? = some (.cells #[.int .i64 pt, .int .i64 px, .int .i64 py, .int .i64 pz, .int .i64 pp, .int .i64 pq, .int .i64 ps] 79 (0, 0))) := by show _; rw [← hV]; exact (mblock_set (mblock_set (mblock_set (mblock_set (mblock_set (mblock_set (mblock_set B2.out _) _) _) _) _) _) _)
              replace B1 : Hid (V3.heap[Y]? = some (.cells #[.int .i64 0, .int .i64 0, .int .i64 0, .int .i64 0, .int .i64 0, .int .i64 0, .int .i64 0] 79 (0, 0))) := by show _; rw [← hV]; exact (mblock_far (mblock_far (mblock_far (mblock_far (mblock_far (mblock_far (mblock_far B1.out NE.out _ _) NE.out _ _) NE.out _ _) NE.out _ _) NE.out _ _) NE.out _ _) NE.out _ _)
              replace G1 : Hid (wo.grownBy V3 none) := by show _; rw [← hV]; exact (mgrown_set (mgrown_set (mgrown_set (mgrown_set (mgrown_set (mgrown_set (mgrown_set G1.out P2.out _ _) P2.out _ _) P2.out _ _) P2.out _ _) P2.out _ _) P2.out _ _) P2.out _ _)
              rw [hV]
              clear hV z0 y0f z1 y1f z2 y2f z3 y3f z4 y4f z5 y5f z6 y6f
              refine hK.out _ _ G1.out (fun hCb3 hSb3 => ?_)
              clear hK K hCb2 hSb2
              try simp only [Go.Act.put, List.setIfInBounds_toArray, List.set_cons_zero, List.set_cons_succ]
              refine wpAnyS_ready (rs := [14]) (by kernel_rfl) (by simp) ?_
              refine AllReadyS.cons rfl hCb3 (fun K hK => ?_) AllReadyS.nil
              have z0 := mblock_cell B1.out 0 _ rfl
              have y0f := mblock_free (k := 0) B1.out
              have z1 := mblock_cell B1.out 1 _ rfl
              have y1f := mblock_free (k := 1) B1.out
              have z2 := mblock_cell B1.out 2 _ rfl
              have y2f := mblock_free (k := 2) B1.out
              have z3 := mblock_cell B1.out 3 _ rfl
              have y3f := mblock_free (k := 3) B1.out
              have z4 := mblock_cell B1.out 4 _ rfl
              have y4f := mblock_free (k := 4) B1.out
              have z5 := mblock_cell B1.out 5 _ rfl
              have y5f := mblock_free (k := 5) B1.out
              have z6 := mblock_cell B1.out 6 _ rfl
              have y6f := mblock_free (k := 6) B1.out
              go_simp
              obtain ⟨V4, hV⟩ : ∃ V, (((((((V3.setCell ⟨Y, 0, none⟩ (.int .i64 qt)).setCell ⟨Y, 1, none⟩ (.int .i64 qx)).setCell ⟨Y, 2, none⟩ (.int .i64 qy)).setCell ⟨Y, 3, none⟩ (.int .i64 qz)).setCell ⟨Y, 4, none⟩ (.int .i64 qp)).setCell ⟨Y, 5, none⟩ (.int .i64 qq)).setCell ⟨Y, 6, none⟩ (.int .i64 qs)) = V := ⟨_, rfl⟩
              replace B1 : Hid (V4.heap[Y]? = some (.cells #[.int .i64 qt, .int .i64 qx, .int .i64 qy, .int .i64 qz, .int .i64 qp, .int .i64 qq, .int .i64 qs] 79 (0, 0))) := by show _; rw [← hV]; exact (mblock_set (mblock_set (mblock_set (mblock_set (mblock_set (mblock_set (mblock_set B1.out _) _) _) _) _) _) _)
              replace B2 : Hid (V4.heap[X]? = some (.cells #[.int .i64 pt, .int .i64 px, .int .i64 py, .int .i64 pz, .int .i64 pp, .int .i64 pq, .int .i64 ps] 79 (0, 0))) := by show _; rw [← hV]; exact (mblock_far (mblock_far (mblock_far (mblock_far (mblock_far (mblock_far (mblock_far B2.out (Ne.symm NE.out) _ _) (Ne.symm NE.out) _ _) (Ne.symm NE.out) _ _) (Ne.symm NE.out) _ _) (Ne.symm NE.out) _ _) (Ne.symm NE.out) _ _) (Ne.symm NE.out) _ _)
              replace G1 : Hid (wo.grownBy V4 none) := by show _; rw [← hV]; exact (mgrown_set (mgrown_set (mgrown_set (mgrown_set (mgrown_set (mgrown_set (mgrown_set G1.out P1.out _ _) P1.out _ _) P1.out _ _) P1.out _ _) P1.out _ _) P1.out _ _) P1.out _ _)
              rw [hV]
              clear hV z0 y0f z1 y1f z2 y2f z3 y3f z4 y4f z5 y5f z6 y6f
              refine hK.out _ _ G1.out (fun hCb4 hSb4 => ?_)
              clear hK K hCb3 hSb3
              try simp only [Go.Act.put, List.setIfInBounds_toArray, List.set_cons_zero, List.set_cons_succ]
              refine wpAnyS_done (by kernel_rfl) ?_ _
              clear hCb4 hSb4
              go_wp2_with fail
              go_meet
              exact ⟨X, Y, rfl, rfl, B2, B1, G1, ⟨P2.out, P1.out⟩⟩
          case rest =>
            obtain ⟨X, Y, rfl, rfl, BX, BY, hGX, XY⟩ := hcut
            clear p0 p1 p2 p3 p4 p5 p6 q0 q1 q2 q3 q4 q5 q6 y3 jl em rk
            have HG2 := Lib.hid (grown_trans HG.out hGX.out)
            have VB2 : Hid (∀ r, v.ownBlock = some r → w.heap.size + 2 ≤ r ∧ r ≠ X ∧ r ≠ Y ∧ r < wc.heap.size) := fun r e => by
              have h1 := HVB.out r e; have h2 := (HO.out.lt r e).2; have h3 := XY.out; have h4 := hGX.out.size
              exact ⟨h1, by omega, by omega, by omega⟩
            have HO2 := Lib.hid (HO.out.kept hGX.out (Classical.em _))
            have HB3 := Lib.hid (mblock_at HB1.out hGX.out (by simp)); have HB4 := Lib.hid (mblock_at HB2.out hGX.out (by simp))
            clear hGX HG HO HB1 HB2
            obtain ⟨wk, hwk⟩ : ∃ W : World, W = wc := ⟨_, rfl⟩
            subst hwk
            have s1 := mblock_cell HB3.out 1 _ rfl
            have u0 := mblock_cell BX.out 0 _ rfl
            have t0 := mblock_cell BY.out 0 _ rfl
            have u1 := mblock_cell BX.out 1 _ rfl
            have t1 := mblock_cell BY.out 1 _ rfl
            have u2 := mblock_cell BX.out 2 _ rfl
            have t2 := mblock_cell BY.out 2 _ rfl
            have u3 := mblock_cell BX.out 3 _ rfl
            have t3 := mblock_cell BY.out 3 _ rfl
            have u4 := mblock_cell BX.out 4 _ rfl
            have t4 := mblock_cell BY.out 4 _ rfl
            have u5 := mblock_cell BX.out 5 _ rfl
            have t5 := mblock_cell BY.out 5 _ rfl
            have u6 := mblock_cell BX.out 6 _ rfl
            have t6 := mblock_cell BY.out 6 _ rfl
            have gd : wk.grownBy wk.drew none := grown_drewN wk none 1
            go_upto_region 12 with (fail)
            refine region_late (lateK (fun V => wk.grownBy V none) []) (by kernel_rfl) gd (fun hCc0 hSc0 => ?_)
            generalize wk.drew = wd at *
            refine wpAnyS_take (i := 0) (oi := ?oic1) (v := .pointer (some ⟨w.heap.size, 1, none⟩)) ?hic1 (by kernel_rfl) (by kernel_rfl) (by kernel_rfl) (lateK_iff (by rfl)) ?hqc1 ?hyc1 hCc0 hSc0 ?restc1
            case hic1 => simp only [List.getElem?_toArray, List.getElem?_cons_succ, List.getElem?_cons_zero, Option.some.injEq]; rfl
            case hqc1 => exact fun _ _ _ h => h
            case hyc1 =>
              refine Or.inl ⟨by kernel_rfl, fun V hV => ?_⟩
              clear hV
              go_simp
            intro hCc1 hSc1
            clear hCc0 hSc0
            try simp only [Go.Act.put, List.setIfInBounds_toArray, List.set_cons_zero, List.set_cons_succ]
            refine wpAnyS_take (i := 1) (oi := ?oic2) (v := .slice sgo gs.length sgc) ?hic2 (by kernel_rfl) (by kernel_rfl) (by kernel_rfl) (lateK_iff (by rfl)) ?hqc2 ?hyc2 hCc1 hSc1 ?restc2
            case hic2 => simp only [List.getElem?_toArray, List.getElem?_cons_succ, List.getElem?_cons_zero, Option.some.injEq]; rfl
            case hqc2 => exact fun _ _ _ h => h
            case hyc2 =>
              refine Or.inl ⟨by kernel_rfl, fun V hV => ?_⟩
              have gV := lateK_g hV; have z9 := grown_cell gV s1; clear gV; clear hV
              go_simp
            intro hCc2 hSc2
            clear hCc1 hSc1
            try simp only [Go.Act.put, List.setIfInBounds_toArray, List.set_cons_zero, List.set_cons_succ]
            refine wpAnyS_take (i := 2) (oi := ?oic3) (v := .agg #[.int .i64 pt, .int .i64 px, .int .i64 py, .int .i64 pz, .int .i64 pp, .int .i64 pq, .int .i64 ps]) ?hic3 (by kernel_rfl) (by kernel_rfl) (by kernel_rfl) (lateK_iff (by rfl)) ?hqc3 ?hyc3 hCc2 hSc2 ?restc3
            case hic3 => simp only [List.getElem?_toArray, List.getElem?_cons_succ, List.getElem?_cons_zero, Option.some.injEq]; rfl
            case hqc3 => exact fun _ _ _ h => h
            case hyc3 =>
              refine Or.inl ⟨by kernel_rfl, fun V hV => ?_⟩
              have gV := lateK_g hV; have zz0 := grown_cell gV u0; have zz1 := grown_cell gV u1; have zz2 := grown_cell gV u2; have zz3 := grown_cell gV u3; have zz4 := grown_cell gV u4; have zz5 := grown_cell gV u5; have zz6 := grown_cell gV u6; clear gV; clear hV
              go_simp
            intro hCc3 hSc3
            clear hCc2 hSc2
            try simp only [Go.Act.put, List.setIfInBounds_toArray, List.set_cons_zero, List.set_cons_succ]
            refine wpAnyS_take (i := 4) (oi := ?oic4) (v := .agg #[.int .i64 qt, .int .i64 qx, .int .i64 qy, .int .i64 qz, .int .i64 qp, .int .i64 qq, .int .i64 qs]) ?hic4 (by kernel_rfl) (by kernel_rfl) (by kernel_rfl) (lateK_iff (by rfl)) ?hqc4 ?hyc4 hCc3 hSc3 ?restc4
            case hic4 => simp only [List.getElem?_toArray, List.getElem?_cons_succ, List.getElem?_cons_zero, Option.some.injEq]; rfl
            case hqc4 => exact fun _ _ _ h => h
            case hyc4 =>
              refine Or.inl ⟨by kernel_rfl, fun V hV => ?_⟩
              have gV := lateK_g hV; have zz0 := grown_cell gV t0; have zz1 := grown_cell gV t1; have zz2 := grown_cell gV t2; have zz3 := grown_cell gV t3; have zz4 := grown_cell gV t4; have zz5 := grown_cell gV t5; have zz6 := grown_cell gV t6; clear gV; clear hV
              go_simp
            intro hCc4 hSc4
            clear hCc3 hSc3
            try simp only [Go.Act.put, List.setIfInBounds_toArray, List.set_cons_zero, List.set_cons_succ]
            refine wpAnyS_take (i := 8) (oi := ?oic5) (v := .int .i64 0) ?hic5 (by kernel_rfl) (by kernel_rfl) (by kernel_rfl) (lateK_iff (by rfl)) ?hqc5 ?hyc5 hCc4 hSc4 ?restc5
            case hic5 => simp only [List.getElem?_toArray, List.getElem?_cons_succ, List.getElem?_cons_zero, Option.some.injEq]; rfl
            case hqc5 => exact fun _ _ _ h => h
            case hyc5 =>
              refine Or.inl ⟨by kernel_rfl, fun V hV => ?_⟩
              clear hV
              go_simp
            intro hCc5 hSc5
            clear hCc4 hSc4
            try simp only [Go.Act.put, List.setIfInBounds_toArray, List.set_cons_zero, List.set_cons_succ]
            refine wpAnyS_ready (rs := [3]) (by kernel_rfl) (by simp) ?_
            refine AllReadyS.cons rfl hCc5 (fun K hK => ?_) AllReadyS.nil
            go_simp
            refine (placeOf_is ⟨pt, px, py, pz, pp, pq, ps⟩ _).mono ?_; rintro e w7 ⟨rfl, hg7⟩
            refine hK.out _ _ (grown_trans gd hg7) (fun hCc6 hSc6 => ?_)
            clear hK hCc5 hSc5 K
            try simp only [Go.Act.put, List.setIfInBounds_toArray, List.set_cons_zero, List.set_cons_succ]
            refine wpAnyS_ready (rs := [5]) (by kernel_rfl) (by simp) ?_
            refine AllReadyS.cons rfl hCc6 (fun K hK => ?_) AllReadyS.nil
            go_simp
            refine (placeOf_is ⟨qt, qx, qy, qz, qp, qq, qs⟩ _).mono ?_; rintro e w8 ⟨rfl, hg8⟩
            refine hK.out _ _ (grown_trans (grown_trans gd hg7) hg8) (fun hCc7 hSc7 => ?_)
            clear hK hCc6 hSc6 K
            try simp only [Go.Act.put, List.setIfInBounds_toArray, List.set_cons_zero, List.set_cons_succ]
            have g8 := grown_trans (grown_trans gd hg7) hg8
            refine wpAnyS_ready (rs := [6]) (by kernel_rfl) (by simp) ?_
            refine AllReadyS.cons rfl hCc7 (fun K hK => ?_) AllReadyS.nil
            go_simp
            refine (passings_is sgo sgc gs HGL.out HGS.out ⟨px, py⟩ ⟨qx, qy⟩ PP.out PQ.out _ ((HS.out.hg.grown HG2.out).grown g8) SRT.out).mono ?_; rintro e w9 ⟨⟨v9, rfl, ho9⟩, hg9⟩
            have hl9 := PRM.out.length_eq
            rw [show passK gs ⟨px, py⟩ ⟨qx, qy⟩ gs.length = passK gs (smpPt ⟨pt, px, py, pz, pp, pq, ps⟩) (smpPt ⟨qt, qx, qy, qz, qp, qq, qs⟩) gs.length from rfl, ← hl9] at ho9
            obtain ⟨ao9, cp9, hv9, _, hr9, hb9⟩ := own_rows (cs := psgCs) (l := L) (fun _ => rfl) ho9
            subst hv9
            refine hK.out _ _ (grown_trans g8 hg9) (fun hCc8 hSc8 => ?_)
            clear hK hCc7 hSc7 K
            try simp only [Go.Act.put, List.setIfInBounds_toArray, List.set_cons_zero, List.set_cons_succ]
            refine wpAnyS_take (i := 7) (oi := ?oic9) (v := .int .i64 (L.length : Int)) ?hic9 (by kernel_rfl) (by kernel_rfl) (by kernel_rfl) (lateK_iff (by rfl)) ?hqc9 ?hyc9 hCc8 hSc8 ?restc9
            case hic9 => simp only [List.getElem?_toArray, List.getElem?_cons_succ, List.getElem?_cons_zero, Option.some.injEq]; rfl
            case hqc9 => exact fun _ _ _ h => h
            case hyc9 =>
              refine Or.inl ⟨by kernel_rfl, fun V hV => ?_⟩
              clear hV
              go_simp
            intro hCc9 hSc9
            clear hCc8 hSc8
            try simp only [Go.Act.put, List.setIfInBounds_toArray, List.set_cons_zero, List.set_cons_succ]
            refine wpAnyS_done (by kernel_rfl) ?_ _
            clear hCc9 hSc9
            have G9 := Lib.hid (grown_trans g8 hg9)
            have HG3 := Lib.hid (grown_trans HG2.out G9.out)
            have HO3 := Lib.hid (HO2.out.kept G9.out (Classical.em _))
            have HB5 := Lib.hid (mblock_at HB3.out G9.out (by simp)); have HB6 := Lib.hid (mblock_at HB4.out G9.out (by simp))
            have BX2 := Lib.hid (mblock_at BX.out G9.out (by simp)); have BY2 := Lib.hid (mblock_at BY.out G9.out (by simp))
            have RW := Lib.hid hr9
            have HB9 := Lib.hid hb9
            have GSZ : Hid (wk.heap.size ≤ w8.heap.size) := g8.size
            clear s1 u0 t0 u1 t1 u2 t2 u3 t3 u4 t4 u5 t5 u6 t6 gd hg7 hg8 g8 hg9 hr9 ho9 hl9 hb9 HG2 HO2 HB3 HB4 BX BY G9 SRT PRM
            go_wp2_with fail
            go_loopw [8, 52] (fun lv xv wr => ∃ (i : Nat) (u : Value), u = lv ∧ xv = .int .i64 i ∧ i ≤ L.length ∧ Hid (w.grownBy wr none) ∧ Hid (wr.ownsRow w.heap.size 42 3 u (crsK SL ss j ++ (L.take i).map (crs1 ⟨pt, px, py, pz, pp, pq, ps⟩ ⟨qt, qx, qy, qz, qp, qq, qs⟩ j)).length ((crsK SL ss j ++ (L.take i).map (crs1 ⟨pt, px, py, pz, pp, pq, ps⟩ ⟨qt, qx, qy, qz, qp, qq, qs⟩ j)).flatMap crsCs)) ∧ Hid (wr.heap[w.heap.size]? = some (.cells #[.string snm, .slice sgo gs.length sgc] 24 (0, 0))) ∧ Hid (wr.heap[w.heap.size + 1]? = some (.cells #[.string nm, .int .i64 sp, .int .i64 st, .slice (some ⟨b, off, none⟩) ss.length sc, .slice lo ls.length lc, .slice to_ ts.length tc] 36 (0, 0))) ∧ Hid (∀ r, u.ownBlock = some r → w.heap.size + 2 ≤ r ∧ r ≠ X ∧ r ≠ Y ∧ ∀ a, ao9 = some a → r ≠ a.block) ∧ Hid (wr.heap[X]? = some (.cells #[.int .i64 pt, .int .i64 px, .int .i64 py, .int .i64 pz, .int .i64 pp, .int .i64 pq, .int .i64 ps] 79 (0, 0))) ∧ Hid (wr.heap[Y]? = some (.cells #[.int .i64 qt, .int .i64 qx, .int .i64 qy, .int .i64 qz, .int .i64 qp, .int .i64 qq, .int .i64 qs] 79 (0, 0))) ∧ Hid (RowsAt psgCs 3 wr ao9 L)) (fun _ xv _ => L.length - (intOf xv).toNat)
            case atStart =>
              refine ⟨0, v, rfl, rfl, Nat.zero_le _, HG3.out, ?_, HB5.out, HB6.out, fun r e => ?_, BX2.out, BY2.out, RW.out⟩
              · show World.ownsRow _ _ _ _ _ _ _; simpa using HO3.out
              · obtain ⟨h1, h2, h3, h4⟩ := VB2.out r e
                refine ⟨h1, h2, h3, fun a ha => ?_⟩
                have := (HB9.out a ha).1
                have := GSZ.out
                omega
            case round =>
              clear HG3 HO3 HB5 HB6 BX2 BY2 RW VB2 HVB
              obtain ⟨i, u, rfl, rfl, hi0, hg, ho, hb1, hb2, hub, hbx, hby, hrw⟩ := hrel
              obtain ⟨wi, hwi⟩ : ∃ W : World, W = wr := ⟨_, rfl⟩
              subst hwi
              by_cases hil : i < L.length
              · obtain ⟨g9, o9, ha9, q9⟩ := rows_at hrw.out (by omega)
                subst ha9
                have k0 := q9 i hil 0 _ rfl; have k1 := q9 i hil 1 _ rfl; have k2 := q9 i hil 2 _ rfl
                have XIN := Lib.hid (PIN.out _ (List.getElem_mem hil))
                have TK : Hid (L.take (i + 1) = L.take i ++ [L[i]]) := List.take_succ_eq_append_getElem hil
                have il0 : (i : Int) < (L.length : Int) := by omega
                have pl50 : L.length ≤ 50 := PLN.out
                have HIL := Lib.hid hil; have HGI := Lib.hid hg.out; have HOI := Lib.hid ho.out; have HB1 := Lib.hid hb1.out; have HB2 := Lib.hid hb2.out; have HUB := Lib.hid hub.out; have HBX := Lib.hid hbx.out; have HBY := Lib.hid hby.out; have HRW := Lib.hid hrw.out
                have LEN : Hid ((crsK SL ss j ++ (L.take i).map (crs1 ⟨pt, px, py, pz, pp, pq, ps⟩ ⟨qt, qx, qy, qz, qp, qq, qs⟩ j)).length ≤ 2000000) := by
                  have h1 := crsK_len PLA.out j (by have := HM.out; have := HML.out; omega)
                  have h2 := PLN.out
                  show _ ≤ _
                  rw [List.length_append, List.length_map, List.length_take]; have := HML.out; omega
                clear q9 hg ho hb1 hb2 hub hbx hby hrw
                generalize L[i] = x at *
                obtain ⟨gt, prt, whl⟩ := x
                simp only [Nat.add_zero] at k0 k1 k2
                generalize hM : crsK SL ss j ++ (L.take i).map (crs1 ⟨pt, px, py, pz, pp, pq, ps⟩ ⟨qt, qx, qy, qz, qp, qq, qs⟩ j) = M at *
                have HMM := Lib.hid hM
                clear hM
                obtain ⟨dt, hdt⟩ : ∃ d, qt - pt = d := ⟨_, rfl⟩
                obtain ⟨num, hnum⟩ : ∃ d, 1000 * dt = d := ⟨_, rfl⟩
                obtain ⟨p1k, hp1k⟩ : ∃ d, 1000 * pt = d := ⟨_, rfl⟩
                have tt := TT2.out
                have rd : IntKind.i64.wrap (qt - pt) = dt := by rw [hdt]; exact IntWalk.i64_in _ (by omega)
                have rn : IntKind.i64.wrap (1000 * dt) = num := by rw [hnum]; exact IntWalk.i64_in _ (by omega)
                have rp : IntKind.i64.wrap (1000 * pt) = p1k := by rw [hp1k]; exact IntWalk.i64_in _ (by omega)
                have NB : Hid (0 ≤ num ∧ num ≤ 1000000000) := by show _ ∧ _; omega
                have PB1 : Hid (0 ≤ p1k ∧ p1k ≤ 1000000000) := by show _ ∧ _; omega
                have PW : Hid ((1 ≤ prt ∧ prt ≤ whl) ∧ whl ≤ 160000000000000000) := ⟨⟨XIN.out.p0, XIN.out.p1⟩, XIN.out.w1⟩
                have CV : Hid (crs1 ⟨pt, px, py, pz, pp, pq, ps⟩ ⟨qt, qx, qy, qz, qp, qq, qs⟩ j ⟨gt, prt, whl⟩ = ⟨gt, j, p1k + (scaleV prt num whl 1).1⟩) := by
                  show _ = _
                  rw [← hp1k, ← hnum, ← hdt]; rfl
                clear hdt hnum hp1k tt XIN
                go_upto_region 15 with (fail)
                clear k0 k1 k2
                have b13 := mheap_new wi (.cells #[.int .i64 gt, .int .i64 prt, .int .i64 whl] 85)
                have gA := World.grownBy_alloc wi (.cells #[.int .i64 gt, .int .i64 prt, .int .i64 whl] 85) none
                have HGI2 := Lib.hid (grown_trans HGI.out gA)
                have HOI2 := Lib.hid (HOI.out.kept gA (Classical.em _))
                have HB3 := Lib.hid (mblock_at HB1.out gA (by simp)); have HB4 := Lib.hid (mblock_at HB2.out gA (by simp))
                have HBX2 := Lib.hid (mblock_at HBX.out gA (by simp)); have HBY2 := Lib.hid (mblock_at HBY.out gA (by simp))
                have HRW2 := Lib.hid (HRW.out.grown gA)
                have UB2 : Hid (∀ r, u.ownBlock = some r → r ≠ wi.heap.size) := fun r e => by have := (HOI.out.lt r e).2; omega
                generalize wi.alloc (.cells #[.int .i64 gt, .int .i64 prt, .int .i64 whl] 85) = w13 at *
                generalize wi.heap.size = B13 at *
                clear gA HGI HOI HB1 HB2 HBX HBY HRW
                have z0 : w13.cell? ⟨B13, 0, none⟩ = some (.int .i64 gt) := mblock_cell b13 0 _ rfl; have z1 : w13.cell? ⟨B13, 1, none⟩ = some (.int .i64 prt) := mblock_cell b13 1 _ rfl; have z2 : w13.cell? ⟨B13, 2, none⟩ = some (.int .i64 whl) := mblock_cell b13 2 _ rfl
                have u0 : w13.cell? ⟨X, 0, none⟩ = some (.int .i64 pt) := mblock_cell HBX2.out 0 _ rfl; have t0 : w13.cell? ⟨Y, 0, none⟩ = some (.int .i64 qt) := mblock_cell HBY2.out 0 _ rfl
                have H13 := Lib.hid b13
                clear b13
                go_wp2_with fail
                refine (scale_any prt num whl 1 (by have := PW.out; omega) (by have := PW.out; omega) (by have := NB.out; omega) (by have := NB.out; omega) (by have := PW.out; omega) (by have := PW.out; omega) _).mono ?_; rintro e w14 ⟨rfl, hg14⟩
                obtain ⟨sv, hsv⟩ : ∃ n, (scaleV prt num whl 1).1 = n := ⟨_, rfl⟩
                obtain ⟨se, hse⟩ : ∃ n, (scaleV prt num whl 1).2 = n := ⟨_, rfl⟩
                have sb := scale_down PW.out.1.1 PW.out.1.2 NB.out.1 NB.out.2
                rw [hsv] at sb
                have HSV := Lib.hid hsv
                rw [hsv, hse]
                obtain ⟨at1, hat1⟩ : ∃ n, p1k + sv = n := ⟨_, rfl⟩
                have ra : IntKind.i64.wrap (p1k + sv) = at1 := by rw [hat1]; exact IntWalk.i64_in _ (by have := PB1.out; have := NB.out; omega)
                have CV2 : Hid (crs1 ⟨pt, px, py, pz, pp, pq, ps⟩ ⟨qt, qx, qy, qz, qp, qq, qs⟩ j ⟨gt, prt, whl⟩ = ⟨gt, j, at1⟩) := by show _ = _; rw [CV.out, HSV.out, hat1]
                have HGI3 := Lib.hid (grown_trans HGI2.out hg14)
                have HOI3 := Lib.hid (HOI2.out.kept hg14 (Classical.em _))
                have HB5 := Lib.hid (mblock_at HB3.out hg14 (by simp)); have HB6 := Lib.hid (mblock_at HB4.out hg14 (by simp))
                have HBX3 := Lib.hid (mblock_at HBX2.out hg14 (by simp)); have HBY3 := Lib.hid (mblock_at HBY2.out hg14 (by simp))
                have HRW3 := Lib.hid (HRW2.out.grown hg14)
                have h13 := mblock_at H13.out hg14 (by simp)
                clear z0 z1 z2 u0 t0 hsv hse sb hat1 HGI2 HOI2 HB3 HB4 HBX2 HBY2 HRW2 hg14 rd rn CV H13
                have z0 : w14.cell? ⟨B13, 0, none⟩ = some (.int .i64 gt) := mblock_cell h13 0 _ rfl
                have u0 : w14.cell? ⟨X, 0, none⟩ = some (.int .i64 pt) := mblock_cell HBX3.out 0 _ rfl
                have em : (m : Int) - 1 = (j : Int) := by have := HM.out; omega
                have rk : IntKind.i64.wrap (j : Int) = (j : Int) := IntWalk.i64_in _ (by have := HM.out; have := HML.out; omega)
                have hi := HI.out; have hz0 := HZ0.out; have hz1 := HZ1.out; have hz2 := HZ2.out
                have HSZ : Hid (w.heap.size ≤ w14.heap.size) := HGI3.out.size
                go_wp2_with (at_builtin; refine wpList_append_own_at _ rfl _ _ 37 rfl w.heap.size 42 i0 (.agg #[.int .i64 0, .int .i64 0, .int .i64 0]) 3 24 Try.underlying37 hi hz0 hz1 hz2 rfl (by decide) u M.length _ rfl (HOI3.out.alloc _) ⟨w14.heap.size, 0, none⟩ 1 1 [.int .i64 gt, .int .i64 j, .int .i64 at1] rfl rfl (World.news_of_block (cs := #[.int .i64 gt, .int .i64 j, .int .i64 at1]) (t := 42) (fr := (0, 0)) (heap_alloc_new w14 _)) (by simp [Value.oneCell']) (by unfold maxLen; have := LEN.out; omega) (by have := LEN.out; omega) (by have := HSZ.out; simp; omega) ?_; intro v' w15 hown' hgrow' _ hat')
                have gA := World.grownBy_alloc w14 (.cells #[.int .i64 gt, .int .i64 j, .int .i64 at1] 42) none
                have UB4 : Hid (∀ r, v'.ownBlock = some r → w.heap.size + 2 ≤ r ∧ r ≠ X ∧ r ≠ Y ∧ ∀ a, some (⟨g9, o9, none⟩ : Addr) = some a → r ≠ a.block) := fun r e => by
                  rcases hat' with h | h
                  · rw [h] at e; exact HUB.out r e
                  · rw [h] at e
                    injection e with e
                    have h1 := lt_of_block HB6.out; have h2 := lt_of_block HBX3.out; have h3 := lt_of_block HBY3.out
                    have h4 : g9 < w14.heap.size := lt_of_cell (HRW3.out.cells _ rfl i HIL.out 0 _ rfl)
                    simp at e
                    refine ⟨by omega, by omega, by omega, fun a ha => ?_⟩
                    injection ha with ha; subst ha; show r ≠ g9; omega
                have ne : ∀ (b : Nat), (∀ r, u.ownBlock = some r → r ≠ b) → some b ≠ u.ownBlock := fun b h e => h b e.symm rfl
                have G5 := Lib.hid (mgrown_row (grown_trans HGI3.out gA) hgrow' (fun r e => by have := (HUB.out r e).1; omega))
                have C1 := Lib.hid (mblock_at (mblock_at HB5.out gA (by simp)) hgrow' (ne _ fun r e => by have := (HUB.out r e).1; omega))
                have C2 := Lib.hid (mblock_at (mblock_at HB6.out gA (by simp)) hgrow' (ne _ fun r e => by have := (HUB.out r e).1; omega))
                have C3 := Lib.hid (mblock_at (mblock_at HBX3.out gA (by simp)) hgrow' (ne _ fun r e => (HUB.out r e).2.1))
                have C4 := Lib.hid (mblock_at (mblock_at HBY3.out gA (by simp)) hgrow' (ne _ fun r e => (HUB.out r e).2.2.1))
                have C5 := Lib.hid ((HRW3.out.grown gA).kept hgrow' (fun a ha _ => ne _ fun r e => (HUB.out r e).2.2.2 a ha))
                have C6 : Hid (w15.ownsRow w.heap.size 42 3 v' (crsK SL ss j ++ (L.take (i + 1)).map (crs1 ⟨pt, px, py, pz, pp, pq, ps⟩ ⟨qt, qx, qy, qz, qp, qq, qs⟩ j)).length ((crsK SL ss j ++ (L.take (i + 1)).map (crs1 ⟨pt, px, py, pz, pp, pq, ps⟩ ⟨qt, qx, qy, qz, qp, qq, qs⟩ j)).flatMap crsCs)) := by
                  show World.ownsRow _ _ _ _ _ _ _
                  rw [TK.out, List.map_append, List.map_cons, List.map_nil, CV2.out, ← List.append_assoc, HMM.out, mflat_snoc, List.length_append]; exact hown'
                clear hown' hgrow' hat' gA ne hi hz0 hz1 hz2 z0 u0 h13
                go_wp2_with fail
                go_roundw
                case rel => exact ⟨i + 1, v', rfl, by go_num, HIL.out, G5.out, C6.out, C1.out, C2.out, UB4.out, C3.out, C4.out, C5.out⟩
                case measure => have := HIL.out; simp [intOf]; omega
              · have hie : i = L.length := by omega
                have C6 : Hid (wi.ownsRow w.heap.size 42 3 u (crsK SL ss (j + 1)).length ((crsK SL ss (j + 1)).flatMap crsCs)) := by
                  have q := ho.out
                  rw [hie, List.take_length, ← CRK.out] at q
                  exact q
                have G5 := Lib.hid hg.out; have C1 := Lib.hid hb1.out; have C2 := Lib.hid hb2.out
                have UB4 : Hid (∀ r, u.ownBlock = some r → w.heap.size + 2 ≤ r) := fun r e => (hub.out r e).1
                clear hg ho hb1 hb2 hub hbx hby hrw hie
                have ml := HML.out
                go_wp2_with fail
                go_roundw
                case rel => exact ⟨j + 1, m + 1, u, rfl, by go_num, by show _ = _; rw [HM.out], by have := HM.out; show _ ≤ _; omega, G5.out, C6.out, C1.out, C2.out, UB4.out⟩
                case measure => simp [intOf]; omega
        · have hje : j = ss.length - 1 := by have := hm.out; have := hj.out; omega
          have hno : ¬ (m : Int) < (ss.length : Int) := by omega
          have C6 := Lib.hid ho.out; have G5 := Lib.hid hg.out
          have y3 := mblock_cell hb2.out 3 _ rfl
          have HJE := Lib.hid hje
          clear hg ho hb1 hb2 hvb hm hj hje hlt
          go_wp2_with fail
          go_ret2
          refine ⟨⟨v, rfl, ?_⟩, G5.out⟩
          rw [HLE.out, ← HJE.out]; exact C6.out
    · have g2 : (e2 != 0) = true := by simpa using d2
      have hEE : E = e2 := HV2.out.symm
      have HN : Hid (crsL SL ⟨snm, sgo, sgc, gs⟩ ⟨nm, sp, st, so, sc, ss, lo, lc, ls, to_, tc, ts⟩ = []) := by
        show _ = _
        unfold crsL; rw [if_neg (by rw [hE.out, hEE]; exact d2)]
      clear d2
      go_wp2_with fail
      go_ret2
      refine ⟨⟨.slice none 0 0, by rw [hEE]; rfl, ?_⟩, G3.out⟩
      rw [HN.out]; exact World.ownsRow_nil _ _ _ _
  · have g2 : (e1 != 0) = true := by simpa using d1
    have hv := HV.out
    rw [if_neg d1] at hv
    have HN : Hid (crsL SL ⟨snm, sgo, sgc, gs⟩ ⟨nm, sp, st, so, sc, ss, lo, lc, ls, to_, tc, ts⟩ = []) := by
      show _ = _
      unfold crsL; rw [if_neg (by rw [hE.out, ← hv]; exact d1)]
    clear d1 HV
    go_wp2_with fail
    go_ret2
    refine ⟨⟨.slice none 0 0, by first | (rw [hv]; rfl) | rfl, ?_⟩, G2.out⟩
    rw [HN.out]; exact World.ownsRow_nil _ _ _ _
end Go.Proofs.Ytckelojdjmaliaa
