/- The contracts of timeOf and slices.MinFunc over efforts, and of both Bests. -/
import Derived.Test.YtckelojdjmaliaaMEff
import Derived.Test.YtckelojdjmaliaaMREff
namespace Go.Proofs.Ytckelojdjmaliaa
open Go.RowKit
set_option linter.unusedSimpArgs false
set_option linter.unusedVariables false

attribute [local go_sem] Oper.semAt_some

def cmpI (a b : Int) : Int := if a < b then -1 else if b < a then 1 else 0
theorem isNaNi_any (x : Int) (w : World) : Calls Try.prog 87 #[.int .i64 x] w fun e w' => e = .returned (.bool false) ∧ w = w' := by
  go_enter Try.func87, Try.ntmps87
  go_wp2
  go_ret
  exact ⟨ret_bool (by simp), rfl⟩
theorem compareI_any (a b : Int) (w : World) {z : Int} (hz : Hid (cmpI a b = z)) : Calls Try.prog 55 #[.int .i64 a, .int .i64 b] w fun e w' => e = .returned (.int .i64 z) ∧ w = w' := by
  have hz2 := hz.out
  unfold cmpI at hz2
  by_cases h1 : a < b
  · have HV : Hid (z = -1) := by show _ = _; rw [← hz2, if_pos h1]
    clear hz2
    go_enter Try.func55, Try.ntmps55
    go_wp2_with (go_at_call 87; refine (isNaNi_any _ _).mono ?_; rintro e w1 ⟨rfl, rfl⟩)
    go_ret
    exact ⟨ret_int HV.out.symm, rfl⟩
  · by_cases h2 : b < a
    · have HV : Hid (z = 1) := by show _ = _; rw [← hz2, if_neg h1, if_pos h2]
      clear hz2
      go_enter Try.func55, Try.ntmps55
      go_wp2_with (go_at_call 87; refine (isNaNi_any _ _).mono ?_; rintro e w1 ⟨rfl, rfl⟩)
      go_ret
      exact ⟨ret_int HV.out.symm, rfl⟩
    · have HV : Hid (z = 0) := by show _ = _; rw [← hz2, if_neg h1, if_neg h2]
      clear hz2
      go_enter Try.func55, Try.ntmps55
      go_wp2_with (go_at_call 87; refine (isNaNi_any _ _).mono ?_; rintro e w1 ⟨rfl, rfl⟩)
      go_ret
      exact ⟨ret_int HV.out.symm, rfl⟩

/-- How long a row of numbers takes, as the machine tells it. -/
def tmV (l : List Int) : Int := wrap64 (l.getD (l.length - 1) 0 - l.getD 0 0)
/-- The first and the last number, in memory. -/
theorem ends_at {w : World} {b : Nat} {l : List Int} (h : RowsAt ic 1 w (some ⟨b, 0, none⟩) l) (h0 : 0 < l.length) :
    w.cell? ⟨b, 0, none⟩ = some (.int .i64 (l.getD 0 0)) ∧ w.cell? ⟨b, l.length - 1, none⟩ = some (.int .i64 (l.getD (l.length - 1) 0)) := by
  have e : ∀ i (hi : i < l.length), w.cell? ⟨b, i, none⟩ = some (.int .i64 (l.getD i 0)) := fun i hi => by
    have q := h.cells _ rfl i hi 0 _ rfl
    rw [List.getD_eq_getElem?_getD, List.getElem?_eq_getElem hi]
    simpa using q
  exact ⟨e 0 h0, e _ (by omega)⟩

set_option maxHeartbeats 1600000 in
theorem timeOf_is (xb xc : Nat) (l : List Int) (w : World) (h : RowsAt ic 1 w (some ⟨xb, 0, none⟩) l) (h0 : 0 < l.length) (h1 : l.length ≤ 50) {T : Int} (hT : Hid (tmV l = T)) :
    Calls Try.prog 56 #[.agg #[.slice (some ⟨xb, 0, none⟩) l.length xc]] w fun e w' => e = .returned (.int .i64 T) ∧ w.grownBy w' none := by
  obtain ⟨c0, c1⟩ := ends_at h h0
  have ht := hT.out
  unfold tmV at ht
  obtain ⟨m, hm⟩ : ∃ m, l.length - 1 = m := ⟨_, rfl⟩
  obtain ⟨n, hn⟩ : ∃ n, l.length = n := ⟨_, rfl⟩
  rw [hm] at c1 ht
  rw [hn] at h0 h1 hm ⊢
  generalize l.getD 0 0 = a0 at *
  generalize l.getD m 0 = a1 at *
  have e1 : (n : Int) - 1 = (m : Int) := by omega
  have e2 : (m : Int) < (n : Int) := by omega
  have e3 : (0 : Int) < (n : Int) := by omega
  have e4 : IntKind.i64.wrap (m : Int) = (m : Int) := IntWalk.i64_in _ (by omega)
  have HT := Lib.hid ht
  clear h hT hn hm h0 ht
  have B1 := mheap_new w (.cells #[.slice (some ⟨xb, 0, none⟩) n xc] 49)
  have G1 := World.grownBy_alloc w (.cells #[.slice (some ⟨xb, 0, none⟩) n xc] 49) none
  have d0 := grown_cell G1 c0; have d1 := grown_cell G1 c1
  go_enter Try.func56, Try.ntmps56
  go_upto_region 1 with (fail)
  generalize w.alloc (.cells #[.slice (some ⟨xb, 0, none⟩) n xc] 49) = w1 at *
  have b0 := mblock_cell B1 0 _ rfl
  clear B1 c0 c1
  generalize w.heap.size = B at *
  have G2 := Lib.hid G1
  clear G1
  go_quiet (fail)
  go_wp2_with fail
  go_ret
  exact ⟨ret_int HT.out, grown_trans G2.out (grown_drewN _ _ _)⟩

set_option maxHeartbeats 1600000 in
theorem best1_is (xb xc yb yc : Nat) (l m : List Int) (w : World) (hx : RowsAt ic 1 w (some ⟨xb, 0, none⟩) l) (x0 : 0 < l.length) (x1 : l.length ≤ 50) (hy : RowsAt ic 1 w (some ⟨yb, 0, none⟩) m) (y0 : 0 < m.length) (y1 : m.length ≤ 50) {z : Int} (hz : Hid (cmpI (tmV l) (tmV m) = z)) :
    Calls Try.prog 54 #[.agg #[.slice (some ⟨xb, 0, none⟩) l.length xc], .agg #[.slice (some ⟨yb, 0, none⟩) m.length yc]] w fun e w' => e = .returned (.int .i64 z) ∧ w.grownBy w' none := by
  have HX := Lib.hid hx; have HY := Lib.hid hy; have HX0 := Lib.hid x0; have HX1 := Lib.hid x1; have HY0 := Lib.hid y0; have HY1 := Lib.hid y1
  obtain ⟨a, ha⟩ : ∃ a, tmV l = a := ⟨_, rfl⟩
  obtain ⟨b, hb⟩ : ∃ a, tmV m = a := ⟨_, rfl⟩
  have hz2 := hz.out
  rw [ha, hb] at hz2
  have HZ := Lib.hid hz2; have HAA := Lib.hid ha; have HBB := Lib.hid hb
  clear hx hy x0 x1 y0 y1 ha hb hz2
  have B2 : Hid (((w.alloc (.cells #[.slice (some ⟨xb, 0, none⟩) l.length xc] 49)).alloc (.cells #[.slice (some ⟨yb, 0, none⟩) m.length yc] 49)).heap[w.heap.size + 1]? = some (.cells #[.slice (some ⟨yb, 0, none⟩) m.length yc] 49 (0, 0))) := by
    have q := mheap_new (w.alloc (.cells #[.slice (some ⟨xb, 0, none⟩) l.length xc] 49)) (.cells #[.slice (some ⟨yb, 0, none⟩) m.length yc] 49)
    rw [show (w.alloc (.cells #[.slice (some ⟨xb, 0, none⟩) l.length xc] 49)).heap.size = w.heap.size + 1 from by simp] at q; exact q
  have B1 : Hid (((w.alloc (.cells #[.slice (some ⟨xb, 0, none⟩) l.length xc] 49)).alloc (.cells #[.slice (some ⟨yb, 0, none⟩) m.length yc] 49)).heap[w.heap.size]? = some (.cells #[.slice (some ⟨xb, 0, none⟩) l.length xc] 49 (0, 0))) := mblock_at (mheap_new w _) (World.grownBy_alloc _ _ none) (by simp)
  have G1 : Hid (w.grownBy ((w.alloc (.cells #[.slice (some ⟨xb, 0, none⟩) l.length xc] 49)).alloc (.cells #[.slice (some ⟨yb, 0, none⟩) m.length yc] 49)) none) := grown_trans (World.grownBy_alloc _ _ _) (World.grownBy_alloc _ _ _)
  go_enter Try.func54, Try.ntmps54
  go_upto_region 1 with (fail)
  generalize ((w.alloc (.cells #[.slice (some ⟨xb, 0, none⟩) l.length xc] 49)).alloc (.cells #[.slice (some ⟨yb, 0, none⟩) m.length yc] 49)) = w1 at *
  have z0 := mblock_cell B1.out 0 _ rfl; have z1 := mblock_cell B2.out 0 _ rfl
  clear B1 B2
  have gd : w1.grownBy w1.drew none := grown_drewN w1 none 1
  refine region_late (lateK (fun V => w1.grownBy V none) []) (by kernel_rfl) gd (fun hCa0 hSa0 => ?_)
  generalize w1.drew = wd at *
  refine wpAnyS_take (i := 0) (oi := ?oia1) (v := .agg #[.slice (some ⟨xb, 0, none⟩) l.length xc]) ?hia1 (by kernel_rfl) (by kernel_rfl) (by kernel_rfl) (lateK_iff (by rfl)) ?hqa1 ?hya1 hCa0 hSa0 ?resta1
  case hia1 => simp only [List.getElem?_toArray, List.getElem?_cons_succ, List.getElem?_cons_zero, Option.some.injEq]; rfl
  case hqa1 => exact fun _ _ _ h => h
  case hya1 =>
    refine Or.inl ⟨by kernel_rfl, fun V hV => ?_⟩
    have gV := lateK_g hV; have zz0 := grown_cell gV z0; clear gV; clear hV
    go_simp
  intro hCa1 hSa1
  clear hCa0 hSa0
  try simp only [Go.Act.put, List.setIfInBounds_toArray, List.set_cons_zero, List.set_cons_succ]
  refine wpAnyS_take (i := 2) (oi := ?oia2) (v := .agg #[.slice (some ⟨yb, 0, none⟩) m.length yc]) ?hia2 (by kernel_rfl) (by kernel_rfl) (by kernel_rfl) (lateK_iff (by rfl)) ?hqa2 ?hya2 hCa1 hSa1 ?resta2
  case hia2 => simp only [List.getElem?_toArray, List.getElem?_cons_succ, List.getElem?_cons_zero, Option.some.injEq]; rfl
  case hqa2 => exact fun _ _ _ h => h
  case hya2 =>
    refine Or.inl ⟨by kernel_rfl, fun V hV => ?_⟩
    have gV := lateK_g hV; have zz0 := grown_cell gV z1; clear gV; clear hV
    go_simp
  intro hCa2 hSa2
  clear hCa1 hSa1
  try simp only [Go.Act.put, List.setIfInBounds_toArray, List.set_cons_zero, List.set_cons_succ]
  refine wpAnyS_ready (rs := [1]) (by kernel_rfl) (by simp) ?_
  refine AllReadyS.cons rfl hCa2 (fun K hK => ?_) AllReadyS.nil
  go_simp
  refine (timeOf_is xb xc l _ ((HX.out.grown G1.out).grown gd) HX0.out HX1.out HAA).mono ?_; rintro e w2 ⟨rfl, hg2⟩
  refine hK.out _ _ (grown_trans gd hg2) (fun hCa3 hSa3 => ?_)
  clear hK hCa2 hSa2 K
  try simp only [Go.Act.put, List.setIfInBounds_toArray, List.set_cons_zero, List.set_cons_succ]
  refine wpAnyS_ready (rs := [3]) (by kernel_rfl) (by simp) ?_
  refine AllReadyS.cons rfl hCa3 (fun K hK => ?_) AllReadyS.nil
  go_simp
  refine (timeOf_is yb yc m _ (((HY.out.grown G1.out).grown gd).grown hg2) HY0.out HY1.out HBB).mono ?_; rintro e w3 ⟨rfl, hg3⟩
  refine hK.out _ _ (grown_trans (grown_trans gd hg2) hg3) (fun hCa4 hSa4 => ?_)
  clear hK hCa3 hSa3 K
  try simp only [Go.Act.put, List.setIfInBounds_toArray, List.set_cons_zero, List.set_cons_succ]
  refine wpAnyS_ready (rs := [4]) (by kernel_rfl) (by simp) ?_
  refine AllReadyS.cons rfl hCa4 (fun K hK => ?_) AllReadyS.nil
  go_simp
  refine (compareI_any a b _ HZ).mono ?_; rintro e w4 ⟨rfl, rfl⟩
  refine hK.out _ _ (grown_trans (grown_trans gd hg2) hg3) (fun hCa5 hSa5 => ?_)
  clear hK hCa4 hSa4 K
  try simp only [Go.Act.put, List.setIfInBounds_toArray, List.set_cons_zero, List.set_cons_succ]
  refine wpAnyS_take (i := 5) (oi := ?oia6) (v := .int .i64 z) ?hia6 (by kernel_rfl) (by kernel_rfl) (by kernel_rfl) (lateK_iff (by rfl)) ?hqa6 ?hya6 hCa5 hSa5 ?resta6
  case hia6 => simp only [List.getElem?_toArray, List.getElem?_cons_succ, List.getElem?_cons_zero, Option.some.injEq]; rfl
  case hqa6 => exact fun _ _ _ h => h
  case hya6 =>
    refine Or.inl ⟨by kernel_rfl, fun V hV => ?_⟩
    clear hV
    go_simp
  intro hCa6 hSa6
  clear hCa5 hSa5
  try simp only [Go.Act.put, List.setIfInBounds_toArray, List.set_cons_zero, List.set_cons_succ]
  refine wpAnyS_done (by kernel_rfl) ?_ _
  clear hCa6 hSa6
  have G4 := Lib.hid (grown_trans G1.out (grown_trans (grown_trans gd hg2) hg3))
  clear gd hg2 hg3 G1 z0 z1
  go_wp2_with fail
  go_ret
  exact ⟨rfl, G4.out⟩

/-- The first of the rows that take the least time, of the first k + 1. -/
def bestI (M : List (List Int)) : Nat → Nat
  | 0 => 0
  | k + 1 => if tmV (M.getD (k + 1) []) < tmV (M.getD (bestI M k) []) then k + 1 else bestI M k
theorem bestI_le (M : List (List Int)) : ∀ k, bestI M k ≤ k
  | 0 => Nat.le_refl _
  | k + 1 => by have := bestI_le M k; unfold bestI; split <;> omega
theorem bestI_least (M : List (List Int)) : ∀ k, ∀ i, i ≤ k → tmV (M.getD (bestI M k) []) ≤ tmV (M.getD i [])
  | 0, i, h => by rw [show i = 0 by omega]; exact Int.le_refl _
  | k + 1, i, h => by
    have ih := bestI_least M k
    unfold bestI
    split
    · rename_i hc
      rcases Nat.lt_or_ge i (k + 1) with c | c
      · have := ih i (by omega); omega
      · rw [show i = k + 1 by omega]; exact Int.le_refl _
    · rename_i hc
      rcases Nat.lt_or_ge i (k + 1) with c | c
      · exact ih i (by omega)
      · rw [show i = k + 1 by omega]; omega
def efD (L : List EffV) (i : Nat) : EffV := L.getD i ⟨0, 0, []⟩
theorem efD_at {L : List EffV} {i : Nat} (h : i < L.length) : efD L i = L[i] := by unfold efD; rw [List.getD_eq_getElem?_getD, List.getElem?_eq_getElem h]; rfl
theorem efD_mem {L : List EffV} {i : Nat} (h : i < L.length) : efD L i ∈ L := by rw [efD_at h]; exact List.getElem_mem h
theorem efD_list {L : List EffV} {M : List (List Int)} (h : L.map (·.at_) = M) {i : Nat} (hi : i < L.length) : (efD L i).at_ = M.getD i [] := by
  rw [efD_at hi, List.getD_eq_getElem?_getD, ← h, List.getElem?_map, List.getElem?_eq_getElem hi]; rfl
theorem cmpI_neg (a b : Int) : cmpI a b < 0 ↔ a < b := by unfold cmpI; repeat' split
                                                          all_goals omega

set_option maxRecDepth 100000 in
set_option maxHeartbeats 3200000 in
theorem minFunc_is (ao : Option Addr) (cap : Nat) (M : List (List Int)) (L : List EffV) (w : World) (h : EffAt w ao M L) (hl : 0 < M.length) (hl2 : M.length ≤ 1000000) (hM : ∀ x ∈ M, 0 < x.length ∧ x.length ≤ 50) {x : EffV} (hx : Hid (efD L (bestI M (M.length - 1)) = x)) :
    Calls Try.prog 53 #[.slice ao M.length cap, .func (.func 54) #[] #[]] w fun e w' => e = .returned (.agg #[.slice (some ⟨x.blk, 0, none⟩) x.at_.length x.cap]) ∧ w.grownBy w' none := by
  have HH := Lib.hid h; have HM := Lib.hid hM; have HX := Lib.hid hx.out
  have hlen := h.len
  have elem : ∀ i, i < L.length → 0 < (efD L i).at_.length ∧ (efD L i).at_.length ≤ 50 := fun i hi => by
    have q := efD_list h.lists hi
    rw [q]
    apply HM.out
    rw [List.getD_eq_getElem?_getD, List.getElem?_eq_getElem (by omega)]
    exact List.getElem_mem _
  have EL := Lib.hid elem
  obtain ⟨g, o, hao, q⟩ := rows_at h.row (by omega)
  subst hao
  have cellE : ∀ i, i < L.length → w.cell? ⟨g, o + i, none⟩ = some (.slice (some ⟨(efD L i).blk, 0, none⟩) (efD L i).at_.length (efD L i).cap) := fun i hi => by
    have t := q i hi 0 _ rfl
    rw [← efD_at hi] at t
    simpa using t
  have CE := Lib.hid cellE
  obtain ⟨n, hn⟩ : ∃ n, M.length = n := ⟨_, rfl⟩
  have HN : Hid (L.length = n) := by show _ = _; omega
  have HMN := Lib.hid hn
  rw [hn] at hl hl2 HX ⊢
  have n0 : (0 : Int) < (n : Int) := by omega
  have n1 : ¬ (n : Int) < 1 := by omega
  have n2 : decide ((n : Int) < 1) = false := decide_eq_false n1
  have c0 := cellE 0 (by omega)
  simp only [Nat.add_zero] at c0
  have HLL := Lib.hid hl
  clear h hM hx hlen elem q cellE hn hl
  have b4 := mheap_new w (.cells #[.slice none 0 0] 49)
  have gA := World.grownBy_alloc w (.cells #[.slice none 0 0] 49) none
  have c1 := grown_cell gA c0
  go_enter Try.func53, Try.ntmps53
  go_upto_region 1 with (fail)
  have B4 := Lib.hid b4; have GA := Lib.hid gA
  generalize w.alloc (.cells #[.slice none 0 0] 49) = w1 at *
  obtain ⟨R4, hR4⟩ : ∃ n, w.heap.size = n := ⟨_, rfl⟩
  have HR4 : Hid (w.heap.size ≤ R4) := by show _ ≤ _; omega
  rw [hR4] at B4
  try rw [hR4]
  clear hR4 gA b4 c0
  generalize hx0 : efD L 0 = x0 at *
  have HX0 := Lib.hid hx0
  clear hx0
  obtain ⟨b0, p0, l0⟩ := x0
  simp only at c1
  go_upto_region 4 with (fail)
  have b5 := mheap_new w1 (.cells #[.slice (some ⟨b0, 0, none⟩) l0.length p0] 49)
  have gB := World.grownBy_alloc w1 (.cells #[.slice (some ⟨b0, 0, none⟩) l0.length p0] 49) none
  have B5 := Lib.hid b5; have GB := Lib.hid (grown_trans GA.out gB); have B42 := Lib.hid (mblock_at B4.out gB (by simp))
  have SZ1 : Hid (w.heap.size ≤ w1.heap.size) := GA.out.size
  have N54 : Hid (R4 ≠ w1.heap.size) := by have := lt_of_block B4.out; show _ ≠ _; omega
  clear c1 b5 gB B4 GA
  generalize w1.alloc (.cells #[.slice (some ⟨b0, 0, none⟩) l0.length p0] 49) = w2 at *
  obtain ⟨R5, hR5⟩ : ∃ n, w1.heap.size = n := ⟨_, rfl⟩
  rw [hR5] at B5 SZ1 N54
  try rw [hR5]
  clear hR5
  go_wp2_with fail
  go_loopw [6] (fun iv wr => ∃ (k m : Nat) (x : EffV), iv = .int .i64 m ∧ Hid (m = k + 1) ∧ m ≤ n ∧ Hid (w.grownBy wr none) ∧ Hid (efD L (bestI M k) = x) ∧ Hid (wr.heap[R5]? = some (.cells #[.slice (some ⟨x.blk, 0, none⟩) x.at_.length x.cap] 49 (0, 0))) ∧ Hid (wr.heap[R4]? = some (.cells #[.slice none 0 0] 49 (0, 0)))) (fun iv _ => n - (intOf iv).toNat)
  case atStart => exact ⟨0, 1, ⟨b0, p0, l0⟩, rfl, rfl, by have := HLL.out; omega, GB.out, HX0.out, B5.out, B42.out⟩
  case round =>
    obtain ⟨k, m, y, rfl, hm, hmn, hg, hy, hb5, hb4⟩ := hrel
    obtain ⟨wo, hwo⟩ : ∃ W : World, W = wr := ⟨_, rfl⟩
    subst hwo
    clear GB B5 B42
    by_cases hlt : m < n
    · have hkm := hm.out
      have hbl := bestI_le M k
      have hbL : bestI M k < L.length := by rw [HN.out]; omega
      obtain ⟨y0, y1⟩ := EL.out _ hbL
      have hry := HH.out.each _ (efD_mem hbL)
      rw [hy.out] at y0 y1 hry
      have hmL : m < L.length := by rw [HN.out]; omega
      obtain ⟨u0, u1⟩ := EL.out _ hmL
      have hru := HH.out.each _ (efD_mem hmL)
      have cm := grown_cell hg.out (CE.out m hmL)
      have lx := efD_list HH.out.lists hmL
      have ly := efD_list HH.out.lists hbL
      rw [hy.out] at ly
      have HRY := Lib.hid (hry.grown hg.out); have HRU := Lib.hid (hru.grown hg.out)
      have HU : Hid (bestI M m = if tmV (M.getD m []) < tmV (M.getD (bestI M k) []) then m else bestI M k) := by show _ = _; rw [hkm]; rfl
      obtain ⟨u, hu⟩ : ∃ u, efD L m = u := ⟨_, rfl⟩
      rw [hu] at u0 u1 HRU cm lx
      have HUU := Lib.hid hu
      rw [← lx, ← ly] at HU
      have HG := Lib.hid hg.out; have HB4 := Lib.hid hb4.out; have HB5 := Lib.hid hb5.out; have HY := Lib.hid hy.out; have HKM := Lib.hid hkm
      have U0 := Lib.hid u0; have U1 := Lib.hid u1; have Y0 := Lib.hid y0; have Y1 := Lib.hid y1
      clear hm hg hy hb5 hb4 hru hry hu lx ly hbl hbL hmL u0 u1 y0 y1 hkm
      obtain ⟨xb, xc, xl⟩ := u
      obtain ⟨yb, yc, yl⟩ := y
      simp only at cm HRU HRY HU U0 U1 Y0 Y1 HB5
      obtain ⟨z, hz⟩ : ∃ z, cmpI (tmV xl) (tmV yl) = z := ⟨_, rfl⟩
      have HZ := Lib.hid hz
      have HZN : Hid (z < 0 ↔ tmV xl < tmV yl) := by show _ ↔ _; rw [← hz]; exact cmpI_neg _ _
      clear hz
      have mn : (m : Int) < (n : Int) := by omega
      have m0 : (0 : Int) ≤ (m : Int) := by omega
      have z5 := mblock_cell HB5.out 0 _ rfl
      go_upto_region 7 with (fail)
      have gd : wo.grownBy wo.drew none := grown_drewN wo none 1
      refine region_late (lateK (fun V => wo.grownBy V none) []) (by kernel_rfl) gd (fun hCb0 hSb0 => ?_)
      generalize wo.drew = wd at *
      refine wpAnyS_take (i := 0) (oi := ?oib1) (v := .func (.func 54) #[] #[]) ?hib1 (by kernel_rfl) (by kernel_rfl) (by kernel_rfl) (lateK_iff (by rfl)) ?hqb1 ?hyb1 hCb0 hSb0 ?restb1
      case hib1 => simp only [List.getElem?_toArray, List.getElem?_cons_succ, List.getElem?_cons_zero, Option.some.injEq]; rfl
      case hqb1 => exact fun _ _ _ h => h
      case hyb1 =>
        refine Or.inl ⟨by kernel_rfl, fun V hV => ?_⟩
        clear hV
        go_simp
      intro hCb1 hSb1
      clear hCb0 hSb0
      try simp only [Go.Act.put, List.setIfInBounds_toArray, List.set_cons_zero, List.set_cons_succ]
      refine wpAnyS_take (i := 1) (oi := ?oib2) (v := .slice (some ⟨g, o, none⟩) n cap) ?hib2 (by kernel_rfl) (by kernel_rfl) (by kernel_rfl) (lateK_iff (by rfl)) ?hqb2 ?hyb2 hCb1 hSb1 ?restb2
      case hib2 => simp only [List.getElem?_toArray, List.getElem?_cons_succ, List.getElem?_cons_zero, Option.some.injEq]; rfl
      case hqb2 => exact fun _ _ _ h => h
      case hyb2 =>
        refine Or.inl ⟨by kernel_rfl, fun V hV => ?_⟩
        clear hV
        go_simp
      intro hCb2 hSb2
      clear hCb1 hSb1
      try simp only [Go.Act.put, List.setIfInBounds_toArray, List.set_cons_zero, List.set_cons_succ]
      refine wpAnyS_take (i := 2) (oi := ?oib3) (v := .int .i64 (m : Int)) ?hib3 (by kernel_rfl) (by kernel_rfl) (by kernel_rfl) (lateK_iff (by rfl)) ?hqb3 ?hyb3 hCb2 hSb2 ?restb3
      case hib3 => simp only [List.getElem?_toArray, List.getElem?_cons_succ, List.getElem?_cons_zero, Option.some.injEq]; rfl
      case hqb3 => exact fun _ _ _ h => h
      case hyb3 =>
        refine Or.inl ⟨by kernel_rfl, fun V hV => ?_⟩
        clear hV
        go_simp
      intro hCb3 hSb3
      clear hCb2 hSb2
      try simp only [Go.Act.put, List.setIfInBounds_toArray, List.set_cons_zero, List.set_cons_succ]
      refine wpAnyS_take (i := 3) (oi := ?oib4) (v := .pointer (some ⟨g, o + m, none⟩)) ?hib4 (by kernel_rfl) (by kernel_rfl) (by kernel_rfl) (lateK_iff (by rfl)) ?hqb4 ?hyb4 hCb3 hSb3 ?restb4
      case hib4 => simp only [List.getElem?_toArray, List.getElem?_cons_succ, List.getElem?_cons_zero, Option.some.injEq]; rfl
      case hqb4 => exact fun _ _ _ h => h
      case hyb4 =>
        refine Or.inl ⟨by kernel_rfl, fun V hV => ?_⟩
        clear hV
        go_simp
      intro hCb4 hSb4
      clear hCb3 hSb3
      try simp only [Go.Act.put, List.setIfInBounds_toArray, List.set_cons_zero, List.set_cons_succ]
      refine wpAnyS_take (i := 4) (oi := ?oib5) (v := .agg #[.slice (some ⟨xb, 0, none⟩) xl.length xc]) ?hib5 (by kernel_rfl) (by kernel_rfl) (by kernel_rfl) (lateK_iff (by rfl)) ?hqb5 ?hyb5 hCb4 hSb4 ?restb5
      case hib5 => simp only [List.getElem?_toArray, List.getElem?_cons_succ, List.getElem?_cons_zero, Option.some.injEq]; rfl
      case hqb5 => exact fun _ _ _ h => h
      case hyb5 =>
        refine Or.inl ⟨by kernel_rfl, fun V hV => ?_⟩
        have gV := lateK_g hV; have zz0 := grown_cell gV cm; clear gV; clear hV
        go_simp
      intro hCb5 hSb5
      clear hCb4 hSb4
      try simp only [Go.Act.put, List.setIfInBounds_toArray, List.set_cons_zero, List.set_cons_succ]
      refine wpAnyS_take (i := 5) (oi := ?oib6) (v := .agg #[.slice (some ⟨yb, 0, none⟩) yl.length yc]) ?hib6 (by kernel_rfl) (by kernel_rfl) (by kernel_rfl) (lateK_iff (by rfl)) ?hqb6 ?hyb6 hCb5 hSb5 ?restb6
      case hib6 => simp only [List.getElem?_toArray, List.getElem?_cons_succ, List.getElem?_cons_zero, Option.some.injEq]; rfl
      case hqb6 => exact fun _ _ _ h => h
      case hyb6 =>
        refine Or.inl ⟨by kernel_rfl, fun V hV => ?_⟩
        have gV := lateK_g hV; have zz0 := grown_cell gV z5; clear gV; clear hV
        go_simp
      intro hCb6 hSb6
      clear hCb5 hSb5
      try simp only [Go.Act.put, List.setIfInBounds_toArray, List.set_cons_zero, List.set_cons_succ]
      refine wpAnyS_ready (rs := [6]) (by kernel_rfl) (by simp) ?_
      refine AllReadyS.cons rfl hCb6 (fun K hK => ?_) AllReadyS.nil
      go_simp
      refine (best1_is xb xc yb yc xl yl _ (HRU.out.grown gd) U0.out U1.out (HRY.out.grown gd) Y0.out Y1.out HZ).mono ?_; rintro e w7 ⟨rfl, hg7⟩
      refine hK.out _ _ (grown_trans gd hg7) (fun hCb7 hSb7 => ?_)
      clear hK hCb6 hSb6 K
      try simp only [Go.Act.put, List.setIfInBounds_toArray, List.set_cons_zero, List.set_cons_succ]
      refine wpAnyS_take (i := 7) (oi := ?oib8) (v := .bool (decide (z < 0))) ?hib8 (by kernel_rfl) (by kernel_rfl) (by kernel_rfl) (lateK_iff (by rfl)) ?hqb8 ?hyb8 hCb7 hSb7 ?restb8
      case hib8 => simp only [List.getElem?_toArray, List.getElem?_cons_succ, List.getElem?_cons_zero, Option.some.injEq]; rfl
      case hqb8 => exact fun _ _ _ h => h
      case hyb8 =>
        refine Or.inl ⟨by kernel_rfl, fun V hV => ?_⟩
        clear hV
        go_simp
      intro hCb8 hSb8
      clear hCb7 hSb7
      try simp only [Go.Act.put, List.setIfInBounds_toArray, List.set_cons_zero, List.set_cons_succ]
      refine wpAnyS_done (by kernel_rfl) ?_ _
      clear hCb8 hSb8
      have g7 := grown_trans gd hg7
      have HG2 := Lib.hid (grown_trans HG.out g7); have HB6 := Lib.hid (mblock_at HB4.out g7 (by simp)); have HB7 := Lib.hid (mblock_at HB5.out g7 (by simp))
      replace cm := grown_cell g7 cm
      clear gd hg7 g7 HG HB4 HB5 z5 HRU HRY
      by_cases hz0 : z < 0
      · have dz : decide (z < 0) = true := decide_eq_true hz0
        have f5 := mblock_free (k := 0) HB7.out
        have z6 := mblock_cell HB7.out 0 _ rfl
        have HNEW : Hid (bestI M m = m) := by show _ = _; rw [HU.out, if_pos (HZN.out.1 hz0)]
        go_wp2_with fail
        have C5 : Hid ((w7.setCell ⟨R5, 0, none⟩ (.slice (some ⟨xb, 0, none⟩) xl.length xc)).heap[R5]? = some (.cells #[.slice (some ⟨xb, 0, none⟩) xl.length xc] 49 (0, 0))) := mblock_set HB7.out _
        have C4 : Hid ((w7.setCell ⟨R5, 0, none⟩ (.slice (some ⟨xb, 0, none⟩) xl.length xc)).heap[R4]? = some (.cells #[.slice none 0 0] 49 (0, 0))) := mblock_far HB6.out N54.out _ _
        have G3 : Hid (w.grownBy (w7.setCell ⟨R5, 0, none⟩ (.slice (some ⟨xb, 0, none⟩) xl.length xc)) none) := mgrown_set HG2.out SZ1.out _ _
        clear f5 z6 cm
        generalize w7.setCell ⟨R5, 0, none⟩ (.slice (some ⟨xb, 0, none⟩) xl.length xc) = w8 at *
        go_wp2_with fail
        go_roundw
        case rel => exact ⟨m, m + 1, ⟨xb, xc, xl⟩, by go_num, rfl, by omega, G3.out, (by show _ = _; rw [HNEW.out]; exact HUU.out), C5.out, C4.out⟩
        case measure => simp [intOf]; omega
      · have dz : decide (z < 0) = false := decide_eq_false hz0
        have HNEW : Hid (bestI M m = bestI M k) := by show _ = _; rw [HU.out, if_neg (fun c => hz0 (HZN.out.2 c))]
        go_wp2_with fail
        go_roundw
        case rel => exact ⟨m, m + 1, ⟨yb, yc, yl⟩, by go_num, rfl, by omega, HG2.out, (by show _ = _; rw [HNEW.out]; exact HY.out), HB7.out, HB6.out⟩
        case measure => simp [intOf]; omega
    · have hke : k = n - 1 := by have := hm.out; omega
      have hxy : y = x := by rw [← hy.out, ← HX.out, hke]
      subst hxy
      obtain ⟨yb, yc, yl⟩ := y
      have z5 := mblock_cell hb5.out 0 _ rfl
      have f4 := mblock_free (k := 0) hb4.out
      have z4 := mblock_cell hb4.out 0 _ rfl
      simp only at z5
      have G3 : Hid (w.grownBy (wo.setCell ⟨R4, 0, none⟩ (.slice (some ⟨yb, 0, none⟩) yl.length yc)) none) := mgrown_set hg.out HR4.out _ _
      have C4 : (wo.setCell ⟨R4, 0, none⟩ (.slice (some ⟨yb, 0, none⟩) yl.length yc)).heap[R4]? = some (.cells #[.slice (some ⟨yb, 0, none⟩) yl.length yc] 49 (0, 0)) := mblock_set hb4.out _
      have c0 := mblock_cell C4 0 _ rfl
      clear hm hg hy hb5 hb4 hke C4
      go_wp2_with fail
      generalize wo.setCell ⟨R4, 0, none⟩ (.slice (some ⟨yb, 0, none⟩) yl.length yc) = w8 at *
      refine bodyPost_ret (v := .agg #[.slice (some ⟨yb, 0, none⟩) yl.length yc]) (by simp [results, Try.results53, go_sem, c0]) rfl ⟨rfl, G3.out⟩
end Go.Proofs.Ytckelojdjmaliaa
