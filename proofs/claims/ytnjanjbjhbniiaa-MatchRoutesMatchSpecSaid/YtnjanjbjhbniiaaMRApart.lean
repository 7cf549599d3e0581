/- The contract of the reference's Apart. -/
import Derived.Test.YtnjanjbjhbniiaaMApartL
import Derived.Test.YtnjanjbjhbniiaaTLate
namespace Go.Proofs.Ytnjanjbjhbniiaa
open Go.RowKit
set_option linter.unusedSimpArgs false
set_option linter.unusedVariables false

attribute [local go_sem] Oper.semAt_some

theorem onL_snoc {l : List Pt} {j : Nat} (h : j < l.length) : onL (l.take (j + 1)) = (onL (l.take j) && decide (onP l[j])) := by
 rw [List.take_succ_eq_append_getElem h]
 generalize l.take j = m
 induction m with
 | nil => simp [onL]
 | cons p r ih => simp only [List.cons_append, onL, ih, Bool.and_assoc]
/-- The row of the table, filled anew up to a place. -/
def frO (s : Nat → Nat → Int) (i : Nat) : Nat → Int := fun x => if i = 0 then 0 else frD s (i - 1) x
def frM (s : Nat → Nat → Int) (i j : Nat) : Nat → Int := fun x => if x < j then frD s i x else frO s i x
theorem frM_set (s : Nat → Nat → Int) (i j : Nat) : updI (frM s i j) j (frD s i j) = frM s i (j + 1) := by
 funext x
 unfold updI frM
 by_cases h : x = j
 ·
  subst h; rw [if_pos rfl, if_pos (by omega)]
 ·
  rw [if_neg h]
  by_cases h2 : x < j
  ·
   rw [if_pos h2, if_pos (by omega)]
  ·
   rw [if_neg h2, if_neg (by omega)]

set_option maxRecDepth 100000 in
set_option maxHeartbeats 12800000 in
theorem rApart_is (ao bo : Option Addr) (ac bc : Nat) (a b : List Pt) (w : World) (ha : PtsAt w ao a) (hb : PtsAt w bo b) (la : (a.length : Int) ≤ 9223372036854775807) (lb : (b.length : Int) ≤ 9223372036854775807) {E V : Int} (hE : Hid (routeE a b = E)) (hV : Hid (apV a b = V)) :
  Calls Try.prog 30 #[.slice ao a.length ac, .slice bo b.length bc] w fun e w' => e = .returned (.tuple #[.int .i64 V, .int .i64 E]) ∧ w.grownBy w' none := by
 have HA := Lib.hid ha; have HB := Lib.hid hb; have HVV := Lib.hid hV.out
 clear ha hb hV
 have hv := hE.out
 unfold routeE at hv
 by_cases a0 : a.length = 0
 ·
  rw [if_pos (Or.inl a0)] at hv
  have ea : decide ((a.length : Int) = 0) = true := decide_eq_true (by omega)
  have eab : ((a.length : Int) == 0) = true := beq_iff_eq.2 (by omega)
  have A0 := Lib.hid a0
  have hV0 : V = 0 := by rw [← HVV.out]; unfold apV; rw [hE.out, if_neg (by omega)]
  clear HVV hE
  clear a0 la lb
  go_enter Try.func30, Try.ntmps30
  go_wp2_with fail
  go_ret2
  exact ⟨by rw [← hv, hV0]; rfl, grown_refl _ _⟩
 ·
  by_cases b0 : b.length = 0
  ·
   rw [if_pos (Or.inr b0)] at hv
   have ea : decide ((a.length : Int) = 0) = false := decide_eq_false (by omega)
   have eab : ((a.length : Int) == 0) = false := beq_eq_false_iff_ne.2 (by omega)
   have eb : decide ((b.length : Int) = 0) = true := decide_eq_true (by omega)
   have ebb : ((b.length : Int) == 0) = true := beq_iff_eq.2 (by omega)
   have hV0 : V = 0 := by rw [← HVV.out]; unfold apV; rw [hE.out, if_neg (by omega)]
   clear HVV hE
   clear a0 b0 la lb
   go_enter Try.func30, Try.ntmps30
   go_wp2_with fail
   go_ret2
   exact ⟨by rw [← hv, hV0]; rfl, grown_refl _ _⟩
  ·
   rw [if_neg (by omega)] at hv
   have ea : decide ((a.length : Int) = 0) = false := decide_eq_false (by omega)
   have eab : ((a.length : Int) == 0) = false := beq_eq_false_iff_ne.2 (by omega)
   have eb : decide ((b.length : Int) = 0) = false := decide_eq_false (by omega)
   have ebb : ((b.length : Int) == 0) = false := beq_eq_false_iff_ne.2 (by omega)
   by_cases a3 : 300 < a.length
   ·
    rw [if_pos (Or.inl a3)] at hv
    have ta : decide ((300 : Int) < (a.length : Int)) = true := decide_eq_true (by omega)
    have hV0 : V = 0 := by rw [← HVV.out]; unfold apV; rw [hE.out, if_neg (by omega)]
    clear HVV hE
    clear a0 b0 la lb a3
    go_enter Try.func30, Try.ntmps30
    go_wp2_with fail
    go_ret2
    exact ⟨by rw [← hv, hV0]; rfl, grown_refl _ _⟩
   ·
    by_cases b3 : 300 < b.length
    ·
     rw [if_pos (Or.inr b3)] at hv
     have ta : decide ((300 : Int) < (a.length : Int)) = false := decide_eq_false (by omega)
     have tb : decide ((300 : Int) < (b.length : Int)) = true := decide_eq_true (by omega)
     have hV0 : V = 0 := by rw [← HVV.out]; unfold apV; rw [hE.out, if_neg (by omega)]
     clear HVV hE
     clear a0 b0 la lb a3 b3
     go_enter Try.func30, Try.ntmps30
     go_wp2_with fail
     go_ret2
     exact ⟨by rw [← hv, hV0]; rfl, grown_refl _ _⟩
    ·
     rw [if_neg (by omega)] at hv
     have ta : decide ((300 : Int) < (a.length : Int)) = false := decide_eq_false (by omega)
     have tb : decide ((300 : Int) < (b.length : Int)) = false := decide_eq_false (by omega)
     have HV := Lib.hid hv
     have N0 : Hid (0 < a.length) := by show _ < _; omega
     have M0 : Hid (0 < b.length) := by show _ < _; omega
     have ha3 : a.length ≤ 300 := by omega
     have hb3 : b.length ≤ 300 := by omega
     have hmk := run_make_row' (P := Try.prog) 47 3 (.int .i64 0) 8 Try.underlying47 info_int rfl .i64 .i64 b.length (by omega) (by omega)
     clear hv a0 b0 la lb a3 b3
     go_enter Try.func30, Try.ntmps30
     go_wp2_with fail
     go_loopw [35] (fun jv wr => ∃ j : Nat, j ≤ a.length ∧ jv = .int .i64 j ∧ Hid (w.grownBy wr none) ∧ Hid (onL (a.take j) = true)) (fun jv _ => a.length - (intOf jv).toNat)
     case atStart => exact ⟨0, Nat.zero_le _, rfl, grown_refl _ _, rfl⟩
     case round =>
      obtain ⟨j, hj, rfl, hgx, hon⟩ := hrel
      by_cases hjl : j < a.length
      ·
       obtain ⟨g, o, hao, q⟩ := pts_at (HA.out.grown hgx.out) (by omega)
       subst hao
       obtain ⟨x0, x1⟩ := q j hjl
       have hsucc := onL_snoc hjl
       obtain ⟨bb, hbb⟩ : ∃ bb, decide (onP a[j]) = bb := ⟨_, rfl⟩
       have HBB := Lib.hid hbb; have HSU := Lib.hid hsucc
       have hj0 : (j : Int) < (a.length : Int) := by omega
       have hmem : Hid (a[j] ∈ a) := List.getElem_mem hjl
       have HGX := Lib.hid hgx.out
       have HJL := Lib.hid hjl
       clear q hbb hsucc hgx
       generalize a[j] = P at *
       obtain ⟨px, py⟩ := P
       simp only at x0 x1
       go_wp2_with fail
       refine (isPoint_is ⟨px, py⟩ _ HBB).mono ?_; rintro e w3 ⟨rfl, hg3⟩
       have G3 : Hid (w.grownBy w3 none) := grown_trans (grown_trans HGX.out (World.grownBy_alloc _ _ _)) hg3
       clear hg3 x0 x1
       cases bb with
       | true =>
        go_wp2_with fail
        go_roundw
        case rel => exact ⟨j + 1, HJL.out, by go_num, G3.out, by show _ = _; rw [HSU.out, hon.out, HBB.out]; rfl⟩
        case measure => have := HJL.out; simp [intOf]; omega
       | false =>
        go_wp2_with fail
        go_ret2
        have hno : ¬ (onL a = true ∧ onL b = true) := fun h => by
         have hp : onP (⟨px, py⟩ : Pt) := onL_iff.1 h.1 _ hmem.out
         have := HBB.out
         rw [decide_eq_true hp] at this
         cases this
        have hv := HV.out
        rw [if_neg hno] at hv
        have hV0 : V = 0 := by rw [← HVV.out]; unfold apV; rw [hE.out, if_neg (by omega)]
        exact ⟨by rw [← hv, hV0]; rfl, G3.out⟩
      ·
       have hon2 : onL a = true := by
        have := hon.out
        rw [List.take_of_length_le (by omega)] at this; exact this
       have ONa := Lib.hid hon2
       have G1 := Lib.hid hgx.out
       have hj0 : ¬ (j : Int) < (a.length : Int) := by omega
       clear hon hon2 hgx
       go_wp2_with fail
       go_loopw [45] (fun jv wr => ∃ j : Nat, j ≤ b.length ∧ jv = .int .i64 j ∧ Hid (w.grownBy wr none) ∧ Hid (onL (b.take j) = true)) (fun jv _ => b.length - (intOf jv).toNat)
       case atStart => exact ⟨0, Nat.zero_le _, rfl, G1.out, rfl⟩
       case round =>
        obtain ⟨j, hj, rfl, hgx, hon⟩ := hrel
        by_cases hjl : j < b.length
        ·
         obtain ⟨g, o, hbo, q⟩ := pts_at (HB.out.grown hgx.out) (by omega)
         subst hbo
         obtain ⟨x0, x1⟩ := q j hjl
         have hsucc := onL_snoc hjl
         obtain ⟨bb, hbb⟩ : ∃ bb, decide (onP b[j]) = bb := ⟨_, rfl⟩
         have HBB := Lib.hid hbb; have HSU := Lib.hid hsucc
         have hj0 : (j : Int) < (b.length : Int) := by omega
         have hmem : Hid (b[j] ∈ b) := List.getElem_mem hjl
         have HGX := Lib.hid hgx.out
         have HJL := Lib.hid hjl
         clear q hbb hsucc hgx
         generalize b[j] = P at *
         obtain ⟨px, py⟩ := P
         simp only at x0 x1
         go_wp2_with fail
         refine (isPoint_is ⟨px, py⟩ _ HBB).mono ?_; rintro e w3 ⟨rfl, hg3⟩
         have G3 : Hid (w.grownBy w3 none) := grown_trans (grown_trans HGX.out (World.grownBy_alloc _ _ _)) hg3
         clear hg3 x0 x1
         cases bb with
         | true =>
          go_wp2_with fail
          go_roundw
          case rel => exact ⟨j + 1, HJL.out, by go_num, G3.out, by show _ = _; rw [HSU.out, hon.out, HBB.out]; rfl⟩
          case measure => have := HJL.out; simp [intOf]; omega
         | false =>
          go_wp2_with fail
          go_ret2
          have hno : ¬ (onL a = true ∧ onL b = true) := fun h => by
           have hp : onP (⟨px, py⟩ : Pt) := onL_iff.1 h.2 _ hmem.out
           have := HBB.out
           rw [decide_eq_true hp] at this
           cases this
          have hv := HV.out
          rw [if_neg hno] at hv
          have hV0 : V = 0 := by rw [← HVV.out]; unfold apV; rw [hE.out, if_neg (by omega)]
          exact ⟨by rw [← hv, hV0]; rfl, G3.out⟩
        ·
         have hon2 : onL b = true := by
          have := hon.out
          rw [List.take_of_length_le (by omega)] at this; exact this
         have ONb := Lib.hid hon2
         have G2 := Lib.hid hgx.out
         have hj0 : ¬ (j : Int) < (b.length : Int) := by omega
         clear hon hon2 hgx
         have hv := HV.out
         rw [if_pos ⟨ONa.out, ONb.out⟩] at hv
         subst hv
         have OA : Hid (∀ p ∈ a, onP p) := onL_iff.1 ONa.out
         have OB : Hid (∀ p ∈ b, onP p) := onL_iff.1 ONb.out
         have HVF : Hid (frD (sqL a b) (a.length - 1) (b.length - 1) = V) := by
          have := HVV.out
          unfold apV at this
          rw [if_pos hE.out] at this; exact this
         have SB : Hid (∀ i j, 0 ≤ frD (sqL a b) i j ∧ frD (sqL a b) i j ≤ 80000000000000000) := fun i j => ⟨frD_nonneg _ _ i j rfl, frD_bd (by omega) (fun i j => (sqD_bd (ptD_on OA.out i) (ptD_on OB.out j)).2) _ i j rfl⟩
         clear HV HVV G1
         obtain ⟨w9, hw9⟩ : ∃ W : World, W = wr := ⟨_, rfl⟩
         subst hw9
         go_wp2_with fail
         have R0 : Hid (RowAt (w9.alloc (.cells (madeCells #[.int .i64 0] b.length) 3)) w9.heap.size b.length (frM (sqL a b) 0 0)) := by
          have e : frM (sqL a b) 0 0 = fun _ => 0 := by funext x; unfold frM frO; rw [if_neg (by omega), if_pos rfl]
          rw [e]; show RowAt _ _ _ _; unfold RowAt; rw [← iRow_zero]; exact mheap_new w9 _
         have G3 : Hid (w.grownBy (w9.alloc (.cells (madeCells #[.int .i64 0] b.length) 3)) none) := grown_trans G2.out (World.grownBy_alloc _ _ _)
         obtain ⟨g1, hg1⟩ : ∃ g, w9.heap.size = g := ⟨_, rfl⟩
         have LG : Hid (w.heap.size ≤ g1) := by have := G2.out.size; show _ ≤ _; omega
         rw [hg1] at R0
         try rw [hg1]
         generalize w9.alloc (.cells (madeCells #[.int .i64 0] b.length) 3) = w10 at *
         clear hg1 hmk G2
         go_loopw [58] (fun iv wr => ∃ k : Nat, k ≤ a.length ∧ iv = .int .i64 k ∧ Hid (w.grownBy wr none) ∧ Hid (RowAt wr g1 b.length (frM (sqL a b) k 0))) (fun iv _ => a.length - (intOf iv).toNat)
         case atStart => exact ⟨0, Nat.zero_le _, rfl, G3.out, R0.out⟩
         case round =>
          clear R0 G3
          obtain ⟨k, hk, rfl, hg, hrow⟩ := hrel
          obtain ⟨wo, rfl⟩ : ∃ W : World, W = wr := ⟨_, rfl⟩
          by_cases hlt : k < a.length
          ·
           obtain ⟨ga, oa, hao, qa⟩ := pts_at (HA.out.grown hg.out) (by omega)
           subst hao
           obtain ⟨x0, x1⟩ := qa k hlt
           have hPa : ptD a k = a[k] := ptD_at hlt
           rw [← hPa] at x0 x1
           have OPk : Hid (onP (ptD a k)) := ptD_on OA.out k
           have PA : Hid (∀ j, sqL a b k j = sqD (ptD a k) (ptD b j)) := fun j => rfl
           have hk0 : (k : Int) < (a.length : Int) := by omega
           have HG := Lib.hid hg.out; have HLT := Lib.hid hlt; have HROW := Lib.hid hrow.out
           clear qa hPa hg hrow
           generalize ptD a k = P at *
           obtain ⟨px, py⟩ := P
           simp only at x0 x1
           go_wp2_with fail
           clear x0 x1
           have bP : (wo.alloc (.cells #[.int .i64 px, .int .i64 py] 64)).heap[wo.heap.size]? = some (.cells #[.int .i64 px, .int .i64 py] 64 (0, 0)) := mheap_new wo _
           have gP := World.grownBy_alloc wo (.cells #[.int .i64 px, .int .i64 py] 64) none
           have R1 := Lib.hid (HROW.out.grown gP)
           have NG : Hid (g1 ≠ wo.heap.size) := fun e => by have := lt_of_block (show wo.heap[g1]? = _ from HROW.out); omega
           have B1 := Lib.hid bP; have G2 := Lib.hid (grown_trans HG.out gP)
           generalize wo.alloc (.cells #[.int .i64 px, .int .i64 py] 64) = wp at *
           clear bP gP HROW
           obtain ⟨bx, hbx0⟩ : ∃ g, wo.heap.size = g := ⟨_, rfl⟩
           rw [hbx0] at B1 NG
           try rw [hbx0]
           clear hbx0
           go_loopw [13, 65] (fun cv jv wr => ∃ (j : Nat) (c : Int), j ≤ b.length ∧ jv = .int .i64 j ∧ cv = .int .i64 c ∧ Hid (0 < j → c = frO (sqL a b) k (j - 1)) ∧ Hid (w.grownBy wr none) ∧ Hid (RowAt wr g1 b.length (frM (sqL a b) k j)) ∧ Hid (wr.heap[bx]? = some (.cells #[.int .i64 px, .int .i64 py] 64 (0, 0)))) (fun _ jv _ => b.length - (intOf jv).toNat)
           case atStart => exact ⟨0, 0, Nat.zero_le _, rfl, rfl, fun h => absurd h (by omega), G2.out, R1.out, B1.out⟩
           case round =>
            obtain ⟨j, c, hj, rfl, rfl, hc, hgj, hR, hbx⟩ := hrel
            obtain ⟨wj, rfl⟩ : ∃ W : World, W = wr := ⟨_, rfl⟩
            clear G2 R1 B1
            by_cases hjl : j < b.length
            ·
             obtain ⟨gb, ob, hbo, qb⟩ := pts_at (HB.out.grown hgj.out) (by omega)
             subst hbo
             obtain ⟨y0, y1⟩ := qb j hjl
             rw [← ptD_at hjl] at y0 y1
             have OQ : Hid (onP (ptD b j)) := ptD_on OB.out j
             have PJ := PA.out j
             have hj0 : (j : Int) < (b.length : Int) := by omega
             have HGJ := Lib.hid hgj.out; have HJL := Lib.hid hjl; have HC := Lib.hid hc.out
             clear qb hgj hc
             generalize ptD b j = Q at *
             obtain ⟨qx, qy⟩ := Q
             simp only at y0 y1
             obtain ⟨n, hn⟩ : ∃ n, sqD ⟨px, py⟩ ⟨qx, qy⟩ = n := ⟨_, rfl⟩
             have hnb := sqD_bd OPk.out OQ.out
             rw [hn] at hnb PJ
             obtain ⟨dx, hdx⟩ : ∃ d, px - qx = d := ⟨_, rfl⟩
             obtain ⟨dy, hdy⟩ : ∃ d, py - qy = d := ⟨_, rfl⟩
             obtain ⟨X, hX⟩ : ∃ d, dx * dx = d := ⟨_, rfl⟩
             obtain ⟨Y, hY⟩ : ∃ d, dy * dy = d := ⟨_, rfl⟩
             have hp1 := OPk.out; have hq1 := OQ.out
             unfold onP at hp1 hq1
             simp only at hp1 hq1
             have DX : Hid (-200000000 ≤ dx ∧ dx ≤ 200000000) := by show _ ∧ _; omega
             have DY : Hid (-200000000 ≤ dy ∧ dy ≤ 200000000) := by show _ ∧ _; omega
             have hxb := sq_bdM DX.out.1 DX.out.2; have hyb := sq_bdM DY.out.1 DY.out.2
             rw [hX] at hxb; rw [hY] at hyb
             have hnn : X + Y = n := by
              rw [← hn, ← hX, ← hY, ← hdx, ← hdy]
              unfold sqD
              simp only
              rw [show px - qx = -(qx - px) by omega, show py - qy = -(qy - py) by omega, Int.neg_mul_neg, Int.neg_mul_neg]
             have rx : IntKind.i64.wrap (px - qx) = dx := by rw [hdx]; exact IntWalk.i64_in _ (by have := DX.out; omega)
             have ry : IntKind.i64.wrap (py - qy) = dy := by rw [hdy]; exact IntWalk.i64_in _ (by have := DY.out; omega)
             have rn : IntKind.i64.wrap (X + Y) = n := by rw [hnn]; exact IntWalk.i64_in _ (by omega)
             have HX := Lib.hid hX; have HY := Lib.hid hY
             have HSQ := Lib.hid hn; have HPJ := Lib.hid PJ; have HNB := Lib.hid hnb
             clear hn PJ hnb hX hY hxb hyb hnn hdx hdy hp1 hq1
             have xb0 := grown_cell (World.grownBy_alloc wj (.cells #[.int .i64 qx, .int .i64 qy] 64) none) (mblock_cell hbx.out 0 _ rfl)
             have xb1 := grown_cell (World.grownBy_alloc wj (.cells #[.int .i64 qx, .int .i64 qy] 64) none) (mblock_cell hbx.out 1 _ rfl)
             have HBX := Lib.hid hbx.out
             have cr0 := grown_cell (World.grownBy_alloc wj (.cells #[.int .i64 qx, .int .i64 qy] 64) none) (hR.out.cell (k := j) hjl)
             obtain ⟨oj, hoj⟩ : ∃ d, frO (sqL a b) k j = d := ⟨_, rfl⟩
             rw [show frM (sqL a b) k j j = oj from (if_neg (by omega)).trans hoj] at cr0
             have HOJ := Lib.hid hoj
             have HR := Lib.hid hR.out
             clear hbx hR hoj
             by_cases kz : k = 0
             ·
              by_cases jz : j = 0
              ·
               have q1 : decide ((k : Int) = 0) = true := decide_eq_true (by omega)
               have q1b : ((k : Int) == 0) = true := beq_iff_eq.2 (by omega)
               have p1 : decide ((j : Int) = 0) = true := decide_eq_true (by omega)
               have p1b : ((j : Int) == 0) = true := beq_iff_eq.2 (by omega)
               have p2 : decide ((0 : Int) < (j : Int)) = false := decide_eq_false (by omega)
               have p2p : ¬ (0 : Int) < (j : Int) := by omega
               have HK0 := Lib.hid kz
               have HJ0 := Lib.hid jz
               clear kz jz
               rcases (by omega : 0 < n ∨ ¬ 0 < n) with hm | hm
               ·
                go_upto_region 33 with (fail)
                have bq : (wj.alloc (.cells #[.int .i64 qx, .int .i64 qy] 64)).drew.heap[wj.heap.size]? = some (.cells #[.int .i64 qx, .int .i64 qy] 64 (0, 0)) := mheap_new wj _
                have gq : wj.grownBy (wj.alloc (.cells #[.int .i64 qx, .int .i64 qy] 64)).drew none := grown_trans (World.grownBy_alloc _ _ _) (grown_drewN _ _ 1)
                have bxq := mblock_at HBX.out gq (by simp)
                have HRQ := Lib.hid (HR.out.grown gq)
                have frq := HRQ.out.free j
                have crq := HRQ.out.cell (k := j) HJL.out
                have NJ : Hid (g1 ≠ wj.heap.size) := fun e => by have := lt_of_block (show wj.heap[g1]? = _ from HR.out); omega
                have hG0 : (fun V => V.cell? ⟨bx, 0, none⟩ = some (.int .i64 px) ∧ V.cell? ⟨bx, 1, none⟩ = some (.int .i64 py) ∧ V.cell? ⟨wj.heap.size, 0, none⟩ = some (.int .i64 qx) ∧ V.cell? ⟨wj.heap.size, 1, none⟩ = some (.int .i64 qy)) (wj.alloc (.cells #[.int .i64 qx, .int .i64 qy] 64)).drew := ⟨mblock_cell bxq 0 _ rfl, mblock_cell bxq 1 _ rfl, mblock_cell bq 0 _ rfl, mblock_cell bq 1 _ rfl⟩
                have BXQ := Lib.hid bxq
                have GQ := Lib.hid (grown_trans HGJ.out gq)
                clear xb0 xb1 cr0 bq bxq y0 y1 gq
                have n1 : (⟨bx, 0, none⟩ : Addr) ≠ ⟨g1, j, none⟩ := fun e => NG.out (congrArg Addr.block e).symm
                have n2 : (⟨bx, 1, none⟩ : Addr) ≠ ⟨g1, j, none⟩ := fun e => NG.out (congrArg Addr.block e).symm
                have n3 : (⟨wj.heap.size, 0, none⟩ : Addr) ≠ ⟨g1, j, none⟩ := fun e => NJ.out (congrArg Addr.block e).symm
                have n4 : (⟨wj.heap.size, 1, none⟩ : Addr) ≠ ⟨g1, j, none⟩ := fun e => NJ.out (congrArg Addr.block e).symm
                have N4 := Lib.hid (And.intro n1 (And.intro n2 (And.intro n3 n4)))
                clear n1 n2 n3 n4
                refine region_late (lateK (fun V => V.cell? ⟨bx, 0, none⟩ = some (.int .i64 px) ∧ V.cell? ⟨bx, 1, none⟩ = some (.int .i64 py) ∧ V.cell? ⟨wj.heap.size, 0, none⟩ = some (.int .i64 qx) ∧ V.cell? ⟨wj.heap.size, 1, none⟩ = some (.int .i64 qy)) []) (by kernel_rfl) hG0 (fun hCv1_0 hSv1_0 => ?_)
                generalize (wj.alloc (.cells #[.int .i64 qx, .int .i64 qy] 64)).drew = wq at *
                refine wpAnyS_take (i := 0) (oi := ?oiv1_1) (v := .slice (some ⟨g1, 0, none⟩) b.length b.length) ?hiv1_1 (by kernel_rfl) (by kernel_rfl) (by kernel_rfl) (lateK_iff (by rfl)) ?hqv1_1 ?hyv1_1 hCv1_0 hSv1_0 ?restv1_1
                case hiv1_1 => simp only [List.getElem?_toArray, List.getElem?_cons_succ, List.getElem?_cons_zero, Option.some.injEq]; rfl
                case hqv1_1 => exact fun _ _ _ h => h
                case hyv1_1 =>
                 refine Or.inl ⟨by kernel_rfl, fun V hV => ?_⟩
                 clear hV
                 go_simp
                intro hCv1_1 hSv1_1
                clear hCv1_0 hSv1_0
                try simp only [Go.Act.put, List.setIfInBounds_toArray, List.set_cons_zero, List.set_cons_succ]
                refine wpAnyS_take (i := 1) (oi := ?oiv1_2) (v := .int .i64 (j : Int)) ?hiv1_2 (by kernel_rfl) (by kernel_rfl) (by kernel_rfl) (lateK_iff (by rfl)) ?hqv1_2 ?hyv1_2 hCv1_1 hSv1_1 ?restv1_2
                case hiv1_2 => simp only [List.getElem?_toArray, List.getElem?_cons_succ, List.getElem?_cons_zero, Option.some.injEq]; rfl
                case hqv1_2 => exact fun _ _ _ h => h
                case hyv1_2 =>
                 refine Or.inl ⟨by kernel_rfl, fun V hV => ?_⟩
                 clear hV
                 go_simp
                intro hCv1_2 hSv1_2
                clear hCv1_1 hSv1_1
                try simp only [Go.Act.put, List.setIfInBounds_toArray, List.set_cons_zero, List.set_cons_succ]
                refine wpAnyS_take (i := 2) (oi := ?oiv1_3) (v := .int .i64 0) ?hiv1_3 (by kernel_rfl) (by kernel_rfl) (by kernel_rfl) (lateK_iff (by rfl)) ?hqv1_3 ?hyv1_3 hCv1_2 hSv1_2 ?restv1_3
                case hiv1_3 => simp only [List.getElem?_toArray, List.getElem?_cons_succ, List.getElem?_cons_zero, Option.some.injEq]; rfl
                case hqv1_3 => exact fun _ _ _ h => h
                case hyv1_3 =>
                 refine Or.inl ⟨by kernel_rfl, fun V hV => ?_⟩
                 clear hV
                 go_simp
                intro hCv1_3 hSv1_3
                clear hCv1_2 hSv1_2
                try simp only [Go.Act.put, List.setIfInBounds_toArray, List.set_cons_zero, List.set_cons_succ]
                refine wpAnyS_take (i := 3) (oi := ?oiv1_4) (v := .pointer (some ⟨bx, 0, none⟩)) ?hiv1_4 (by kernel_rfl) (by kernel_rfl) (by kernel_rfl) (lateK_iff (by rfl)) ?hqv1_4 ?hyv1_4 hCv1_3 hSv1_3 ?restv1_4
                case hiv1_4 => simp only [List.getElem?_toArray, List.getElem?_cons_succ, List.getElem?_cons_zero, Option.some.injEq]; rfl
                case hqv1_4 => exact fun _ _ _ h => h
                case hyv1_4 =>
                 refine Or.inl ⟨by kernel_rfl, fun V hV => ?_⟩
                 clear hV
                 go_simp
                intro hCv1_4 hSv1_4
                clear hCv1_3 hSv1_3
                try simp only [Go.Act.put, List.setIfInBounds_toArray, List.set_cons_zero, List.set_cons_succ]
                refine wpAnyS_take (i := 4) (oi := ?oiv1_5) (v := .int .i64 px) ?hiv1_5 (by kernel_rfl) (by kernel_rfl) (by kernel_rfl) (lateK_iff (by rfl)) ?hqv1_5 ?hyv1_5 hCv1_4 hSv1_4 ?restv1_5
                case hiv1_5 => simp only [List.getElem?_toArray, List.getElem?_cons_succ, List.getElem?_cons_zero, Option.some.injEq]; rfl
                case hqv1_5 => exact fun _ _ _ h => h
                case hyv1_5 =>
                 refine Or.inl ⟨by kernel_rfl, fun V hV => ?_⟩
                 have q0 := (lateK_g hV).1; clear hV
                 go_simp
                intro hCv1_5 hSv1_5
                clear hCv1_4 hSv1_4
                try simp only [Go.Act.put, List.setIfInBounds_toArray, List.set_cons_zero, List.set_cons_succ]
                refine wpAnyS_take (i := 5) (oi := ?oiv1_6) (v := .pointer (some ⟨wj.heap.size, 0, none⟩)) ?hiv1_6 (by kernel_rfl) (by kernel_rfl) (by kernel_rfl) (lateK_iff (by rfl)) ?hqv1_6 ?hyv1_6 hCv1_5 hSv1_5 ?restv1_6
                case hiv1_6 => simp only [List.getElem?_toArray, List.getElem?_cons_succ, List.getElem?_cons_zero, Option.some.injEq]; rfl
                case hqv1_6 => exact fun _ _ _ h => h
                case hyv1_6 =>
                 refine Or.inl ⟨by kernel_rfl, fun V hV => ?_⟩
                 clear hV
                 go_simp
                intro hCv1_6 hSv1_6
                clear hCv1_5 hSv1_5
                try simp only [Go.Act.put, List.setIfInBounds_toArray, List.set_cons_zero, List.set_cons_succ]
                refine wpAnyS_take (i := 6) (oi := ?oiv1_7) (v := .int .i64 qx) ?hiv1_7 (by kernel_rfl) (by kernel_rfl) (by kernel_rfl) (lateK_iff (by rfl)) ?hqv1_7 ?hyv1_7 hCv1_6 hSv1_6 ?restv1_7
                case hiv1_7 => simp only [List.getElem?_toArray, List.getElem?_cons_succ, List.getElem?_cons_zero, Option.some.injEq]; rfl
                case hqv1_7 => exact fun _ _ _ h => h
                case hyv1_7 =>
                 refine Or.inl ⟨by kernel_rfl, fun V hV => ?_⟩
                 have q0 := (lateK_g hV).2.2.1; clear hV
                 go_simp
                intro hCv1_7 hSv1_7
                clear hCv1_6 hSv1_6
                try simp only [Go.Act.put, List.setIfInBounds_toArray, List.set_cons_zero, List.set_cons_succ]
                refine wpAnyS_take (i := 7) (oi := ?oiv1_8) (v := .int .i64 dx) ?hiv1_8 (by kernel_rfl) (by kernel_rfl) (by kernel_rfl) (lateK_iff (by rfl)) ?hqv1_8 ?hyv1_8 hCv1_7 hSv1_7 ?restv1_8
                case hiv1_8 => simp only [List.getElem?_toArray, List.getElem?_cons_succ, List.getElem?_cons_zero, Option.some.injEq]; rfl
                case hqv1_8 => exact fun _ _ _ h => h
                case hyv1_8 =>
                 refine Or.inl ⟨by kernel_rfl, fun V hV => ?_⟩
                 clear hV
                 go_simp
                intro hCv1_8 hSv1_8
                clear hCv1_7 hSv1_7
                try simp only [Go.Act.put, List.setIfInBounds_toArray, List.set_cons_zero, List.set_cons_succ]
                refine wpAnyS_take (i := 9) (oi := ?oiv1_9) (v := .pointer (some ⟨bx, 1, none⟩)) ?hiv1_9 (by kernel_rfl) (by kernel_rfl) (by kernel_rfl) (lateK_iff (by rfl)) ?hqv1_9 ?hyv1_9 hCv1_8 hSv1_8 ?restv1_9
                case hiv1_9 => simp only [List.getElem?_toArray, List.getElem?_cons_succ, List.getElem?_cons_zero, Option.some.injEq]; rfl
                case hqv1_9 => exact fun _ _ _ h => h
                case hyv1_9 =>
                 refine Or.inl ⟨by kernel_rfl, fun V hV => ?_⟩
                 clear hV
                 go_simp
                intro hCv1_9 hSv1_9
                clear hCv1_8 hSv1_8
                try simp only [Go.Act.put, List.setIfInBounds_toArray, List.set_cons_zero, List.set_cons_succ]
                refine wpAnyS_take (i := 10) (oi := ?oiv1_10) (v := .int .i64 py) ?hiv1_10 (by kernel_rfl) (by kernel_rfl) (by kernel_rfl) (lateK_iff (by rfl)) ?hqv1_10 ?hyv1_10 hCv1_9 hSv1_9 ?restv1_10
                case hiv1_10 => simp only [List.getElem?_toArray, List.getElem?_cons_succ, List.getElem?_cons_zero, Option.some.injEq]; rfl
                case hqv1_10 => exact fun _ _ _ h => h
                case hyv1_10 =>
                 refine Or.inl ⟨by kernel_rfl, fun V hV => ?_⟩
                 have q0 := (lateK_g hV).2.1; clear hV
                 go_simp
                intro hCv1_10 hSv1_10
                clear hCv1_9 hSv1_9
                try simp only [Go.Act.put, List.setIfInBounds_toArray, List.set_cons_zero, List.set_cons_succ]
                refine wpAnyS_take (i := 11) (oi := ?oiv1_11) (v := .pointer (some ⟨wj.heap.size, 1, none⟩)) ?hiv1_11 (by kernel_rfl) (by kernel_rfl) (by kernel_rfl) (lateK_iff (by rfl)) ?hqv1_11 ?hyv1_11 hCv1_10 hSv1_10 ?restv1_11
                case hiv1_11 => simp only [List.getElem?_toArray, List.getElem?_cons_succ, List.getElem?_cons_zero, Option.some.injEq]; rfl
                case hqv1_11 => exact fun _ _ _ h => h
                case hyv1_11 =>
                 refine Or.inl ⟨by kernel_rfl, fun V hV => ?_⟩
                 clear hV
                 go_simp
                intro hCv1_11 hSv1_11
                clear hCv1_10 hSv1_10
                try simp only [Go.Act.put, List.setIfInBounds_toArray, List.set_cons_zero, List.set_cons_succ]
                refine wpAnyS_take (i := 12) (oi := ?oiv1_12) (v := .int .i64 qy) ?hiv1_12 (by kernel_rfl) (by kernel_rfl) (by kernel_rfl) (lateK_iff (by rfl)) ?hqv1_12 ?hyv1_12 hCv1_11 hSv1_11 ?restv1_12
                case hiv1_12 => simp only [List.getElem?_toArray, List.getElem?_cons_succ, List.getElem?_cons_zero, Option.some.injEq]; rfl
                case hqv1_12 => exact fun _ _ _ h => h
                case hyv1_12 =>
                 refine Or.inl ⟨by kernel_rfl, fun V hV => ?_⟩
                 have q0 := (lateK_g hV).2.2.2; clear hV
                 go_simp
                intro hCv1_12 hSv1_12
                clear hCv1_11 hSv1_11
                try simp only [Go.Act.put, List.setIfInBounds_toArray, List.set_cons_zero, List.set_cons_succ]
                refine wpAnyS_take (i := 13) (oi := ?oiv1_13) (v := .int .i64 dy) ?hiv1_13 (by kernel_rfl) (by kernel_rfl) (by kernel_rfl) (lateK_iff (by rfl)) ?hqv1_13 ?hyv1_13 hCv1_12 hSv1_12 ?restv1_13
                case hiv1_13 => simp only [List.getElem?_toArray, List.getElem?_cons_succ, List.getElem?_cons_zero, Option.some.injEq]; rfl
                case hqv1_13 => exact fun _ _ _ h => h
                case hyv1_13 =>
                 refine Or.inl ⟨by kernel_rfl, fun V hV => ?_⟩
                 clear hV
                 go_simp
                intro hCv1_13 hSv1_13
                clear hCv1_12 hSv1_12
                try simp only [Go.Act.put, List.setIfInBounds_toArray, List.set_cons_zero, List.set_cons_succ]
                refine wpAnyS_ready (rs := [8]) (by kernel_rfl) (by simp) ?_
                refine AllReadyS.cons rfl hCv1_13 (fun K hK => ?_) AllReadyS.nil
                go_simp
                refine (mrsquare_is dx DX.out.1 DX.out.2 _ HX).mono ?_; rintro e w1 ⟨rfl, rfl⟩
                refine hK.out _ _ hG0 (fun hCv1_14 hSv1_14 => ?_)
                clear hK hCv1_13 hSv1_13 K
                try simp only [Go.Act.put, List.setIfInBounds_toArray, List.set_cons_zero, List.set_cons_succ]
                refine wpAnyS_ready (rs := [14]) (by kernel_rfl) (by simp) ?_
                refine AllReadyS.cons rfl hCv1_14 (fun K hK => ?_) AllReadyS.nil
                go_simp
                refine (mrsquare_is dy DY.out.1 DY.out.2 _ HY).mono ?_; rintro e w1 ⟨rfl, rfl⟩
                refine hK.out _ _ hG0 (fun hCv1_15 hSv1_15 => ?_)
                clear hK hCv1_14 hSv1_14 K
                try simp only [Go.Act.put, List.setIfInBounds_toArray, List.set_cons_zero, List.set_cons_succ]
                refine wpAnyS_take (i := 15) (oi := ?oiv1_16) (v := .int .i64 n) ?hiv1_16 (by kernel_rfl) (by kernel_rfl) (by kernel_rfl) (lateK_iff (by rfl)) ?hqv1_16 ?hyv1_16 hCv1_15 hSv1_15 ?restv1_16
                case hiv1_16 => simp only [List.getElem?_toArray, List.getElem?_cons_succ, List.getElem?_cons_zero, Option.some.injEq]; rfl
                case hqv1_16 => exact fun _ _ _ h => h
                case hyv1_16 =>
                 refine Or.inl ⟨by kernel_rfl, fun V hV => ?_⟩
                 clear hV
                 go_simp
                intro hCv1_16 hSv1_16
                clear hCv1_15 hSv1_15
                try simp only [Go.Act.put, List.setIfInBounds_toArray, List.set_cons_zero, List.set_cons_succ]
                refine wpAnyS_take (i := 16) (oi := ?oiv1_17) (v := .int .i64 n) ?hiv1_17 (by kernel_rfl) (by kernel_rfl) (by kernel_rfl) (lateK_iff (by rfl)) ?hqv1_17 ?hyv1_17 hCv1_16 hSv1_16 ?restv1_17
                case hiv1_17 => simp only [List.getElem?_toArray, List.getElem?_cons_succ, List.getElem?_cons_zero, Option.some.injEq]; rfl
                case hqv1_17 => exact fun _ _ _ h => h
                case hyv1_17 =>
                 refine Or.inl ⟨by kernel_rfl, fun V hV => ?_⟩
                 clear hV
                 go_simp
                intro hCv1_17 hSv1_17
                clear hCv1_16 hSv1_16
                try simp only [Go.Act.put, List.setIfInBounds_toArray, List.set_cons_zero, List.set_cons_succ]
                refine wpAnyS_take (i := 17) (oi := ?oiv1_18) (v := .pointer (some ⟨g1, j, none⟩)) ?hiv1_18 (by kernel_rfl) (by kernel_rfl) (by kernel_rfl) (lateK_iff (by rfl)) ?hqv1_18 ?hyv1_18 hCv1_17 hSv1_17 ?restv1_18
                case hiv1_18 => simp only [List.getElem?_toArray, List.getElem?_cons_succ, List.getElem?_cons_zero, Option.some.injEq]; rfl
                case hqv1_18 => exact fun _ _ _ h => h
                case hyv1_18 =>
                 refine Or.inl ⟨by kernel_rfl, fun V hV => ?_⟩
                 clear hV
                 go_simp
                intro hCv1_18 hSv1_18
                clear hCv1_17 hSv1_17
                try simp only [Go.Act.put, List.setIfInBounds_toArray, List.set_cons_zero, List.set_cons_succ]
                refine wpAnyS_ready (rs := [18]) (by kernel_rfl) (by simp) ?_
                refine AllReadyS.cons rfl hCv1_18 (fun K hK => ?_) AllReadyS.nil
                go_simp
                refine hK.out _ _ ⟨(World.cell?_setCell_other _ _ _ _ N4.out.1.symm).trans hG0.1, (World.cell?_setCell_other _ _ _ _ N4.out.2.1.symm).trans hG0.2.1, (World.cell?_setCell_other _ _ _ _ N4.out.2.2.1.symm).trans hG0.2.2.1, (World.cell?_setCell_other _ _ _ _ N4.out.2.2.2.symm).trans hG0.2.2.2⟩ (fun hCv1_19 hSv1_19 => ?_)
                clear hK hCv1_18 hSv1_18 K
                try simp only [Go.Act.put, List.setIfInBounds_toArray, List.set_cons_zero, List.set_cons_succ]
                refine wpAnyS_done (by kernel_rfl) ?_ _
                clear hCv1_19 hSv1_19
                have hd : frD (sqL a b) k j = n := by
                 have hp := HPJ.out
                 have ho := HOJ.out
                 have hc := HC.out
                 unfold frO at ho hc
                 rw [HK0.out, HJ0.out] at *
                 simp only [frD]
                 omega
                have HD2 := Lib.hid hd
                have HG4 := Lib.hid (mgrown_set GQ.out LG.out j (.int .i64 n))
                have HR4 : Hid (RowAt (wq.setCell ⟨g1, j, none⟩ (.int .i64 n)) g1 b.length (frM (sqL a b) k (j + 1))) := by
                 have q := HRQ.out.set j n
                 have e := frM_set (sqL a b) k j
                 rw [HD2.out] at e
                 rw [e] at q; exact q
                have HB4 : Hid ((wq.setCell ⟨g1, j, none⟩ (.int .i64 n)).heap[bx]? = some (.cells #[.int .i64 px, .int .i64 py] 64 (0, 0))) := by
                 show _ = _
                 rw [Below.heap_setCell _ _ _ _ (by show bx ≠ g1; exact fun e => NG.out e.symm)]; exact BXQ.out
                have HC4 : Hid (0 < j + 1 → oj = frO (sqL a b) k (j + 1 - 1)) := fun _ => by rw [Nat.add_sub_cancel]; exact HOJ.out.symm
                clear hd hG0 frq crq
                go_wp2_with fail
                go_roundw
                case rel => exact ⟨j + 1, oj, HJL.out, by go_num, rfl, HC4.out, HG4.out, HR4.out, HB4.out⟩
                case measure => have := HJL.out; simp [intOf]; omega
               ·
                go_upto_region 33 with (fail)
                have bq : (wj.alloc (.cells #[.int .i64 qx, .int .i64 qy] 64)).drew.heap[wj.heap.size]? = some (.cells #[.int .i64 qx, .int .i64 qy] 64 (0, 0)) := mheap_new wj _
                have gq : wj.grownBy (wj.alloc (.cells #[.int .i64 qx, .int .i64 qy] 64)).drew none := grown_trans (World.grownBy_alloc _ _ _) (grown_drewN _ _ 1)
                have bxq := mblock_at HBX.out gq (by simp)
                have HRQ := Lib.hid (HR.out.grown gq)
                have frq := HRQ.out.free j
                have crq := HRQ.out.cell (k := j) HJL.out
                have NJ : Hid (g1 ≠ wj.heap.size) := fun e => by have := lt_of_block (show wj.heap[g1]? = _ from HR.out); omega
                have hG0 : (fun V => V.cell? ⟨bx, 0, none⟩ = some (.int .i64 px) ∧ V.cell? ⟨bx, 1, none⟩ = some (.int .i64 py) ∧ V.cell? ⟨wj.heap.size, 0, none⟩ = some (.int .i64 qx) ∧ V.cell? ⟨wj.heap.size, 1, none⟩ = some (.int .i64 qy)) (wj.alloc (.cells #[.int .i64 qx, .int .i64 qy] 64)).drew := ⟨mblock_cell bxq 0 _ rfl, mblock_cell bxq 1 _ rfl, mblock_cell bq 0 _ rfl, mblock_cell bq 1 _ rfl⟩
                have BXQ := Lib.hid bxq
                have GQ := Lib.hid (grown_trans HGJ.out gq)
                clear xb0 xb1 cr0 bq bxq y0 y1 gq
                have n1 : (⟨bx, 0, none⟩ : Addr) ≠ ⟨g1, j, none⟩ := fun e => NG.out (congrArg Addr.block e).symm
                have n2 : (⟨bx, 1, none⟩ : Addr) ≠ ⟨g1, j, none⟩ := fun e => NG.out (congrArg Addr.block e).symm
                have n3 : (⟨wj.heap.size, 0, none⟩ : Addr) ≠ ⟨g1, j, none⟩ := fun e => NJ.out (congrArg Addr.block e).symm
                have n4 : (⟨wj.heap.size, 1, none⟩ : Addr) ≠ ⟨g1, j, none⟩ := fun e => NJ.out (congrArg Addr.block e).symm
                have N4 := Lib.hid (And.intro n1 (And.intro n2 (And.intro n3 n4)))
                clear n1 n2 n3 n4
                refine region_late (lateK (fun V => V.cell? ⟨bx, 0, none⟩ = some (.int .i64 px) ∧ V.cell? ⟨bx, 1, none⟩ = some (.int .i64 py) ∧ V.cell? ⟨wj.heap.size, 0, none⟩ = some (.int .i64 qx) ∧ V.cell? ⟨wj.heap.size, 1, none⟩ = some (.int .i64 qy)) []) (by kernel_rfl) hG0 (fun hCv2_0 hSv2_0 => ?_)
                generalize (wj.alloc (.cells #[.int .i64 qx, .int .i64 qy] 64)).drew = wq at *
                refine wpAnyS_take (i := 0) (oi := ?oiv2_1) (v := .slice (some ⟨g1, 0, none⟩) b.length b.length) ?hiv2_1 (by kernel_rfl) (by kernel_rfl) (by kernel_rfl) (lateK_iff (by rfl)) ?hqv2_1 ?hyv2_1 hCv2_0 hSv2_0 ?restv2_1
                case hiv2_1 => simp only [List.getElem?_toArray, List.getElem?_cons_succ, List.getElem?_cons_zero, Option.some.injEq]; rfl
                case hqv2_1 => exact fun _ _ _ h => h
                case hyv2_1 =>
                 refine Or.inl ⟨by kernel_rfl, fun V hV => ?_⟩
                 clear hV
                 go_simp
                intro hCv2_1 hSv2_1
                clear hCv2_0 hSv2_0
                try simp only [Go.Act.put, List.setIfInBounds_toArray, List.set_cons_zero, List.set_cons_succ]
                refine wpAnyS_take (i := 1) (oi := ?oiv2_2) (v := .int .i64 (j : Int)) ?hiv2_2 (by kernel_rfl) (by kernel_rfl) (by kernel_rfl) (lateK_iff (by rfl)) ?hqv2_2 ?hyv2_2 hCv2_1 hSv2_1 ?restv2_2
                case hiv2_2 => simp only [List.getElem?_toArray, List.getElem?_cons_succ, List.getElem?_cons_zero, Option.some.injEq]; rfl
                case hqv2_2 => exact fun _ _ _ h => h
                case hyv2_2 =>
                 refine Or.inl ⟨by kernel_rfl, fun V hV => ?_⟩
                 clear hV
                 go_simp
                intro hCv2_2 hSv2_2
                clear hCv2_1 hSv2_1
                try simp only [Go.Act.put, List.setIfInBounds_toArray, List.set_cons_zero, List.set_cons_succ]
                refine wpAnyS_take (i := 2) (oi := ?oiv2_3) (v := .int .i64 0) ?hiv2_3 (by kernel_rfl) (by kernel_rfl) (by kernel_rfl) (lateK_iff (by rfl)) ?hqv2_3 ?hyv2_3 hCv2_2 hSv2_2 ?restv2_3
                case hiv2_3 => simp only [List.getElem?_toArray, List.getElem?_cons_succ, List.getElem?_cons_zero, Option.some.injEq]; rfl
                case hqv2_3 => exact fun _ _ _ h => h
                case hyv2_3 =>
                 refine Or.inl ⟨by kernel_rfl, fun V hV => ?_⟩
                 clear hV
                 go_simp
                intro hCv2_3 hSv2_3
                clear hCv2_2 hSv2_2
                try simp only [Go.Act.put, List.setIfInBounds_toArray, List.set_cons_zero, List.set_cons_succ]
                refine wpAnyS_take (i := 3) (oi := ?oiv2_4) (v := .pointer (some ⟨bx, 0, none⟩)) ?hiv2_4 (by kernel_rfl) (by kernel_rfl) (by kernel_rfl) (lateK_iff (by rfl)) ?hqv2_4 ?hyv2_4 hCv2_3 hSv2_3 ?restv2_4
                case hiv2_4 => simp only [List.getElem?_toArray, List.getElem?_cons_succ, List.getElem?_cons_zero, Option.some.injEq]; rfl
                case hqv2_4 => exact fun _ _ _ h => h
                case hyv2_4 =>
                 refine Or.inl ⟨by kernel_rfl, fun V hV => ?_⟩
                 clear hV
                 go_simp
                intro hCv2_4 hSv2_4
                clear hCv2_3 hSv2_3
                try simp only [Go.Act.put, List.setIfInBounds_toArray, List.set_cons_zero, List.set_cons_succ]
                refine wpAnyS_take (i := 4) (oi := ?oiv2_5) (v := .int .i64 px) ?hiv2_5 (by kernel_rfl) (by kernel_rfl) (by kernel_rfl) (lateK_iff (by rfl)) ?hqv2_5 ?hyv2_5 hCv2_4 hSv2_4 ?restv2_5
                case hiv2_5 => simp only [List.getElem?_toArray, List.getElem?_cons_succ, List.getElem?_cons_zero, Option.some.injEq]; rfl
                case hqv2_5 => exact fun _ _ _ h => h
                case hyv2_5 =>
                 refine Or.inl ⟨by kernel_rfl, fun V hV => ?_⟩
                 have q0 := (lateK_g hV).1; clear hV
                 go_simp
                intro hCv2_5 hSv2_5
                clear hCv2_4 hSv2_4
                try simp only [Go.Act.put, List.setIfInBounds_toArray, List.set_cons_zero, List.set_cons_succ]
                refine wpAnyS_take (i := 5) (oi := ?oiv2_6) (v := .pointer (some ⟨wj.heap.size, 0, none⟩)) ?hiv2_6 (by kernel_rfl) (by kernel_rfl) (by kernel_rfl) (lateK_iff (by rfl)) ?hqv2_6 ?hyv2_6 hCv2_5 hSv2_5 ?restv2_6
                case hiv2_6 => simp only [List.getElem?_toArray, List.getElem?_cons_succ, List.getElem?_cons_zero, Option.some.injEq]; rfl
                case hqv2_6 => exact fun _ _ _ h => h
                case hyv2_6 =>
                 refine Or.inl ⟨by kernel_rfl, fun V hV => ?_⟩
                 clear hV
                 go_simp
                intro hCv2_6 hSv2_6
                clear hCv2_5 hSv2_5
                try simp only [Go.Act.put, List.setIfInBounds_toArray, List.set_cons_zero, List.set_cons_succ]
                refine wpAnyS_take (i := 6) (oi := ?oiv2_7) (v := .int .i64 qx) ?hiv2_7 (by kernel_rfl) (by kernel_rfl) (by kernel_rfl) (lateK_iff (by rfl)) ?hqv2_7 ?hyv2_7 hCv2_6 hSv2_6 ?restv2_7
                case hiv2_7 => simp only [List.getElem?_toArray, List.getElem?_cons_succ, List.getElem?_cons_zero, Option.some.injEq]; rfl
                case hqv2_7 => exact fun _ _ _ h => h
                case hyv2_7 =>
                 refine Or.inl ⟨by kernel_rfl, fun V hV => ?_⟩
                 have q0 := (lateK_g hV).2.2.1; clear hV
                 go_simp
                intro hCv2_7 hSv2_7
                clear hCv2_6 hSv2_6
                try simp only [Go.Act.put, List.setIfInBounds_toArray, List.set_cons_zero, List.set_cons_succ]
                refine wpAnyS_take (i := 7) (oi := ?oiv2_8) (v := .int .i64 dx) ?hiv2_8 (by kernel_rfl) (by kernel_rfl) (by kernel_rfl) (lateK_iff (by rfl)) ?hqv2_8 ?hyv2_8 hCv2_7 hSv2_7 ?restv2_8
                case hiv2_8 => simp only [List.getElem?_toArray, List.getElem?_cons_succ, List.getElem?_cons_zero, Option.some.injEq]; rfl
                case hqv2_8 => exact fun _ _ _ h => h
                case hyv2_8 =>
                 refine Or.inl ⟨by kernel_rfl, fun V hV => ?_⟩
                 clear hV
                 go_simp
                intro hCv2_8 hSv2_8
                clear hCv2_7 hSv2_7
                try simp only [Go.Act.put, List.setIfInBounds_toArray, List.set_cons_zero, List.set_cons_succ]
                refine wpAnyS_take (i := 9) (oi := ?oiv2_9) (v := .pointer (some ⟨bx, 1, none⟩)) ?hiv2_9 (by kernel_rfl) (by kernel_rfl) (by kernel_rfl) (lateK_iff (by rfl)) ?hqv2_9 ?hyv2_9 hCv2_8 hSv2_8 ?restv2_9
                case hiv2_9 => simp only [List.getElem?_toArray, List.getElem?_cons_succ, List.getElem?_cons_zero, Option.some.injEq]; rfl
                case hqv2_9 => exact fun _ _ _ h => h
                case hyv2_9 =>
                 refine Or.inl ⟨by kernel_rfl, fun V hV => ?_⟩
                 clear hV
                 go_simp
                intro hCv2_9 hSv2_9
                clear hCv2_8 hSv2_8
                try simp only [Go.Act.put, List.setIfInBounds_toArray, List.set_cons_zero, List.set_cons_succ]
                refine wpAnyS_take (i := 10) (oi := ?oiv2_10) (v := .int .i64 py) ?hiv2_10 (by kernel_rfl) (by kernel_rfl) (by kernel_rfl) (lateK_iff (by rfl)) ?hqv2_10 ?hyv2_10 hCv2_9 hSv2_9 ?restv2_10
                case hiv2_10 => simp only [List.getElem?_toArray, List.getElem?_cons_succ, List.getElem?_cons_zero, Option.some.injEq]; rfl
                case hqv2_10 => exact fun _ _ _ h => h
                case hyv2_10 =>
                 refine Or.inl ⟨by kernel_rfl, fun V hV => ?_⟩
                 have q0 := (lateK_g hV).2.1; clear hV
                 go_simp
                intro hCv2_10 hSv2_10
                clear hCv2_9 hSv2_9
                try simp only [Go.Act.put, List.setIfInBounds_toArray, List.set_cons_zero, List.set_cons_succ]
                refine wpAnyS_take (i := 11) (oi := ?oiv2_11) (v := .pointer (some ⟨wj.heap.size, 1, none⟩)) ?hiv2_11 (by kernel_rfl) (by kernel_rfl) (by kernel_rfl) (lateK_iff (by rfl)) ?hqv2_11 ?hyv2_11 hCv2_10 hSv2_10 ?restv2_11
                case hiv2_11 => simp only [List.getElem?_toArray, List.getElem?_cons_succ, List.getElem?_cons_zero, Option.some.injEq]; rfl
                case hqv2_11 => exact fun _ _ _ h => h
                case hyv2_11 =>
                 refine Or.inl ⟨by kernel_rfl, fun V hV => ?_⟩
                 clear hV
                 go_simp
                intro hCv2_11 hSv2_11
                clear hCv2_10 hSv2_10
                try simp only [Go.Act.put, List.setIfInBounds_toArray, List.set_cons_zero, List.set_cons_succ]
                refine wpAnyS_take (i := 12) (oi := ?oiv2_12) (v := .int .i64 qy) ?hiv2_12 (by kernel_rfl) (by kernel_rfl) (by kernel_rfl) (lateK_iff (by rfl)) ?hqv2_12 ?hyv2_12 hCv2_11 hSv2_11 ?restv2_12
                case hiv2_12 => simp only [List.getElem?_toArray, List.getElem?_cons_succ, List.getElem?_cons_zero, Option.some.injEq]; rfl
                case hqv2_12 => exact fun _ _ _ h => h
                case hyv2_12 =>
                 refine Or.inl ⟨by kernel_rfl, fun V hV => ?_⟩
                 have q0 := (lateK_g hV).2.2.2; clear hV
                 go_simp
                intro hCv2_12 hSv2_12
                clear hCv2_11 hSv2_11
                try simp only [Go.Act.put, List.setIfInBounds_toArray, List.set_cons_zero, List.set_cons_succ]
                refine wpAnyS_take (i := 13) (oi := ?oiv2_13) (v := .int .i64 dy) ?hiv2_13 (by kernel_rfl) (by kernel_rfl) (by kernel_rfl) (lateK_iff (by rfl)) ?hqv2_13 ?hyv2_13 hCv2_12 hSv2_12 ?restv2_13
                case hiv2_13 => simp only [List.getElem?_toArray, List.getElem?_cons_succ, List.getElem?_cons_zero, Option.some.injEq]; rfl
                case hqv2_13 => exact fun _ _ _ h => h
                case hyv2_13 =>
                 refine Or.inl ⟨by kernel_rfl, fun V hV => ?_⟩
                 clear hV
                 go_simp
                intro hCv2_13 hSv2_13
                clear hCv2_12 hSv2_12
                try simp only [Go.Act.put, List.setIfInBounds_toArray, List.set_cons_zero, List.set_cons_succ]
                refine wpAnyS_ready (rs := [8]) (by kernel_rfl) (by simp) ?_
                refine AllReadyS.cons rfl hCv2_13 (fun K hK => ?_) AllReadyS.nil
                go_simp
                refine (mrsquare_is dx DX.out.1 DX.out.2 _ HX).mono ?_; rintro e w1 ⟨rfl, rfl⟩
                refine hK.out _ _ hG0 (fun hCv2_14 hSv2_14 => ?_)
                clear hK hCv2_13 hSv2_13 K
                try simp only [Go.Act.put, List.setIfInBounds_toArray, List.set_cons_zero, List.set_cons_succ]
                refine wpAnyS_ready (rs := [14]) (by kernel_rfl) (by simp) ?_
                refine AllReadyS.cons rfl hCv2_14 (fun K hK => ?_) AllReadyS.nil
                go_simp
                refine (mrsquare_is dy DY.out.1 DY.out.2 _ HY).mono ?_; rintro e w1 ⟨rfl, rfl⟩
                refine hK.out _ _ hG0 (fun hCv2_15 hSv2_15 => ?_)
                clear hK hCv2_14 hSv2_14 K
                try simp only [Go.Act.put, List.setIfInBounds_toArray, List.set_cons_zero, List.set_cons_succ]
                refine wpAnyS_take (i := 15) (oi := ?oiv2_16) (v := .int .i64 n) ?hiv2_16 (by kernel_rfl) (by kernel_rfl) (by kernel_rfl) (lateK_iff (by rfl)) ?hqv2_16 ?hyv2_16 hCv2_15 hSv2_15 ?restv2_16
                case hiv2_16 => simp only [List.getElem?_toArray, List.getElem?_cons_succ, List.getElem?_cons_zero, Option.some.injEq]; rfl
                case hqv2_16 => exact fun _ _ _ h => h
                case hyv2_16 =>
                 refine Or.inl ⟨by kernel_rfl, fun V hV => ?_⟩
                 clear hV
                 go_simp
                intro hCv2_16 hSv2_16
                clear hCv2_15 hSv2_15
                try simp only [Go.Act.put, List.setIfInBounds_toArray, List.set_cons_zero, List.set_cons_succ]
                refine wpAnyS_take (i := 16) (oi := ?oiv2_17) (v := .int .i64 0) ?hiv2_17 (by kernel_rfl) (by kernel_rfl) (by kernel_rfl) (lateK_iff (by rfl)) ?hqv2_17 ?hyv2_17 hCv2_16 hSv2_16 ?restv2_17
                case hiv2_17 => simp only [List.getElem?_toArray, List.getElem?_cons_succ, List.getElem?_cons_zero, Option.some.injEq]; rfl
                case hqv2_17 => exact fun _ _ _ h => h
                case hyv2_17 =>
                 refine Or.inl ⟨by kernel_rfl, fun V hV => ?_⟩
                 clear hV
                 go_simp
                intro hCv2_17 hSv2_17
                clear hCv2_16 hSv2_16
                try simp only [Go.Act.put, List.setIfInBounds_toArray, List.set_cons_zero, List.set_cons_succ]
                refine wpAnyS_take (i := 17) (oi := ?oiv2_18) (v := .pointer (some ⟨g1, j, none⟩)) ?hiv2_18 (by kernel_rfl) (by kernel_rfl) (by kernel_rfl) (lateK_iff (by rfl)) ?hqv2_18 ?hyv2_18 hCv2_17 hSv2_17 ?restv2_18
                case hiv2_18 => simp only [List.getElem?_toArray, List.getElem?_cons_succ, List.getElem?_cons_zero, Option.some.injEq]; rfl
                case hqv2_18 => exact fun _ _ _ h => h
                case hyv2_18 =>
                 refine Or.inl ⟨by kernel_rfl, fun V hV => ?_⟩
                 clear hV
                 go_simp
                intro hCv2_18 hSv2_18
                clear hCv2_17 hSv2_17
                try simp only [Go.Act.put, List.setIfInBounds_toArray, List.set_cons_zero, List.set_cons_succ]
                refine wpAnyS_ready (rs := [18]) (by kernel_rfl) (by simp) ?_
                refine AllReadyS.cons rfl hCv2_18 (fun K hK => ?_) AllReadyS.nil
                go_simp
                refine hK.out _ _ ⟨(World.cell?_setCell_other _ _ _ _ N4.out.1.symm).trans hG0.1, (World.cell?_setCell_other _ _ _ _ N4.out.2.1.symm).trans hG0.2.1, (World.cell?_setCell_other _ _ _ _ N4.out.2.2.1.symm).trans hG0.2.2.1, (World.cell?_setCell_other _ _ _ _ N4.out.2.2.2.symm).trans hG0.2.2.2⟩ (fun hCv2_19 hSv2_19 => ?_)
                clear hK hCv2_18 hSv2_18 K
                try simp only [Go.Act.put, List.setIfInBounds_toArray, List.set_cons_zero, List.set_cons_succ]
                refine wpAnyS_done (by kernel_rfl) ?_ _
                clear hCv2_19 hSv2_19
                have hd : frD (sqL a b) k j = 0 := by
                 have hp := HPJ.out
                 have ho := HOJ.out
                 have hc := HC.out
                 unfold frO at ho hc
                 rw [HK0.out, HJ0.out] at *
                 simp only [frD]
                 omega
                have HD2 := Lib.hid hd
                have HG4 := Lib.hid (mgrown_set GQ.out LG.out j (.int .i64 0))
                have HR4 : Hid (RowAt (wq.setCell ⟨g1, j, none⟩ (.int .i64 0)) g1 b.length (frM (sqL a b) k (j + 1))) := by
                 have q := HRQ.out.set j 0
                 have e := frM_set (sqL a b) k j
                 rw [HD2.out] at e
                 rw [e] at q; exact q
                have HB4 : Hid ((wq.setCell ⟨g1, j, none⟩ (.int .i64 0)).heap[bx]? = some (.cells #[.int .i64 px, .int .i64 py] 64 (0, 0))) := by
                 show _ = _
                 rw [Below.heap_setCell _ _ _ _ (by show bx ≠ g1; exact fun e => NG.out e.symm)]; exact BXQ.out
                have HC4 : Hid (0 < j + 1 → oj = frO (sqL a b) k (j + 1 - 1)) := fun _ => by rw [Nat.add_sub_cancel]; exact HOJ.out.symm
                clear hd hG0 frq crq
                go_wp2_with fail
                go_roundw
                case rel => exact ⟨j + 1, oj, HJL.out, by go_num, rfl, HC4.out, HG4.out, HR4.out, HB4.out⟩
                case measure => have := HJL.out; simp [intOf]; omega
              ·
               have q1 : decide ((k : Int) = 0) = true := decide_eq_true (by omega)
               have q1b : ((k : Int) == 0) = true := beq_iff_eq.2 (by omega)
               have p1 : decide ((j : Int) = 0) = false := decide_eq_false (by omega)
               have p1b : ((j : Int) == 0) = false := beq_eq_false_iff_ne.2 (by omega)
               have p2 : decide ((0 : Int) < (j : Int)) = true := decide_eq_true (by omega)
               have p2p : (0 : Int) < (j : Int) := by omega
               have HK0 := Lib.hid kz
               obtain ⟨j1, hj1⟩ : ∃ j1, j = j1 + 1 := ⟨j - 1, by omega⟩
               have em : (j : Int) - 1 = (j1 : Int) := by omega
               have rk : IntKind.i64.wrap (j1 : Int) = (j1 : Int) := IntWalk.i64_in _ (by omega)
               have j1l : (j1 : Int) < (b.length : Int) := by omega
               have j1n : j1 < b.length := by omega
               have HJ0 := Lib.hid hj1
               have cr := HR.out.cell (k := j1) j1n
               obtain ⟨dr, hdr⟩ : ∃ d, frD (sqL a b) k j1 = d := ⟨_, rfl⟩
               rw [show frM (sqL a b) k j j1 = dr from (if_pos (by omega)).trans hdr] at cr
               replace cr := grown_cell (World.grownBy_alloc wj (.cells #[.int .i64 qx, .int .i64 qy] 64) none) cr
               have HDR := Lib.hid hdr
               clear hj1 hdr
               clear kz jz
               rcases (by omega : dr < n ∨ ¬ dr < n) with hm | hm
               ·
                go_upto_region 33 with (fail)
                have bq : (wj.alloc (.cells #[.int .i64 qx, .int .i64 qy] 64)).drew.heap[wj.heap.size]? = some (.cells #[.int .i64 qx, .int .i64 qy] 64 (0, 0)) := mheap_new wj _
                have gq : wj.grownBy (wj.alloc (.cells #[.int .i64 qx, .int .i64 qy] 64)).drew none := grown_trans (World.grownBy_alloc _ _ _) (grown_drewN _ _ 1)
                have bxq := mblock_at HBX.out gq (by simp)
                have HRQ := Lib.hid (HR.out.grown gq)
                have frq := HRQ.out.free j
                have crq := HRQ.out.cell (k := j) HJL.out
                have NJ : Hid (g1 ≠ wj.heap.size) := fun e => by have := lt_of_block (show wj.heap[g1]? = _ from HR.out); omega
                have hG0 : (fun V => V.cell? ⟨bx, 0, none⟩ = some (.int .i64 px) ∧ V.cell? ⟨bx, 1, none⟩ = some (.int .i64 py) ∧ V.cell? ⟨wj.heap.size, 0, none⟩ = some (.int .i64 qx) ∧ V.cell? ⟨wj.heap.size, 1, none⟩ = some (.int .i64 qy)) (wj.alloc (.cells #[.int .i64 qx, .int .i64 qy] 64)).drew := ⟨mblock_cell bxq 0 _ rfl, mblock_cell bxq 1 _ rfl, mblock_cell bq 0 _ rfl, mblock_cell bq 1 _ rfl⟩
                have BXQ := Lib.hid bxq
                have GQ := Lib.hid (grown_trans HGJ.out gq)
                clear xb0 xb1 cr0 cr bq bxq y0 y1 gq
                have n1 : (⟨bx, 0, none⟩ : Addr) ≠ ⟨g1, j, none⟩ := fun e => NG.out (congrArg Addr.block e).symm
                have n2 : (⟨bx, 1, none⟩ : Addr) ≠ ⟨g1, j, none⟩ := fun e => NG.out (congrArg Addr.block e).symm
                have n3 : (⟨wj.heap.size, 0, none⟩ : Addr) ≠ ⟨g1, j, none⟩ := fun e => NJ.out (congrArg Addr.block e).symm
                have n4 : (⟨wj.heap.size, 1, none⟩ : Addr) ≠ ⟨g1, j, none⟩ := fun e => NJ.out (congrArg Addr.block e).symm
                have N4 := Lib.hid (And.intro n1 (And.intro n2 (And.intro n3 n4)))
                clear n1 n2 n3 n4
                refine region_late (lateK (fun V => V.cell? ⟨bx, 0, none⟩ = some (.int .i64 px) ∧ V.cell? ⟨bx, 1, none⟩ = some (.int .i64 py) ∧ V.cell? ⟨wj.heap.size, 0, none⟩ = some (.int .i64 qx) ∧ V.cell? ⟨wj.heap.size, 1, none⟩ = some (.int .i64 qy)) []) (by kernel_rfl) hG0 (fun hCv3_0 hSv3_0 => ?_)
                generalize (wj.alloc (.cells #[.int .i64 qx, .int .i64 qy] 64)).drew = wq at *
                refine wpAnyS_take (i := 0) (oi := ?oiv3_1) (v := .slice (some ⟨g1, 0, none⟩) b.length b.length) ?hiv3_1 (by kernel_rfl) (by kernel_rfl) (by kernel_rfl) (lateK_iff (by rfl)) ?hqv3_1 ?hyv3_1 hCv3_0 hSv3_0 ?restv3_1
                case hiv3_1 => simp only [List.getElem?_toArray, List.getElem?_cons_succ, List.getElem?_cons_zero, Option.some.injEq]; rfl
                case hqv3_1 => exact fun _ _ _ h => h
                case hyv3_1 =>
                 refine Or.inl ⟨by kernel_rfl, fun V hV => ?_⟩
                 clear hV
                 go_simp
                intro hCv3_1 hSv3_1
                clear hCv3_0 hSv3_0
                try simp only [Go.Act.put, List.setIfInBounds_toArray, List.set_cons_zero, List.set_cons_succ]
                refine wpAnyS_take (i := 1) (oi := ?oiv3_2) (v := .int .i64 (j : Int)) ?hiv3_2 (by kernel_rfl) (by kernel_rfl) (by kernel_rfl) (lateK_iff (by rfl)) ?hqv3_2 ?hyv3_2 hCv3_1 hSv3_1 ?restv3_2
                case hiv3_2 => simp only [List.getElem?_toArray, List.getElem?_cons_succ, List.getElem?_cons_zero, Option.some.injEq]; rfl
                case hqv3_2 => exact fun _ _ _ h => h
                case hyv3_2 =>
                 refine Or.inl ⟨by kernel_rfl, fun V hV => ?_⟩
                 clear hV
                 go_simp
                intro hCv3_2 hSv3_2
                clear hCv3_1 hSv3_1
                try simp only [Go.Act.put, List.setIfInBounds_toArray, List.set_cons_zero, List.set_cons_succ]
                refine wpAnyS_take (i := 2) (oi := ?oiv3_3) (v := .int .i64 dr) ?hiv3_3 (by kernel_rfl) (by kernel_rfl) (by kernel_rfl) (lateK_iff (by rfl)) ?hqv3_3 ?hyv3_3 hCv3_2 hSv3_2 ?restv3_3
                case hiv3_3 => simp only [List.getElem?_toArray, List.getElem?_cons_succ, List.getElem?_cons_zero, Option.some.injEq]; rfl
                case hqv3_3 => exact fun _ _ _ h => h
                case hyv3_3 =>
                 refine Or.inl ⟨by kernel_rfl, fun V hV => ?_⟩
                 clear hV
                 go_simp
                intro hCv3_3 hSv3_3
                clear hCv3_2 hSv3_2
                try simp only [Go.Act.put, List.setIfInBounds_toArray, List.set_cons_zero, List.set_cons_succ]
                refine wpAnyS_take (i := 3) (oi := ?oiv3_4) (v := .pointer (some ⟨bx, 0, none⟩)) ?hiv3_4 (by kernel_rfl) (by kernel_rfl) (by kernel_rfl) (lateK_iff (by rfl)) ?hqv3_4 ?hyv3_4 hCv3_3 hSv3_3 ?restv3_4
                case hiv3_4 => simp only [List.getElem?_toArray, List.getElem?_cons_succ, List.getElem?_cons_zero, Option.some.injEq]; rfl
                case hqv3_4 => exact fun _ _ _ h => h
                case hyv3_4 =>
                 refine Or.inl ⟨by kernel_rfl, fun V hV => ?_⟩
                 clear hV
                 go_simp
                intro hCv3_4 hSv3_4
                clear hCv3_3 hSv3_3
                try simp only [Go.Act.put, List.setIfInBounds_toArray, List.set_cons_zero, List.set_cons_succ]
                refine wpAnyS_take (i := 4) (oi := ?oiv3_5) (v := .int .i64 px) ?hiv3_5 (by kernel_rfl) (by kernel_rfl) (by kernel_rfl) (lateK_iff (by rfl)) ?hqv3_5 ?hyv3_5 hCv3_4 hSv3_4 ?restv3_5
                case hiv3_5 => simp only [List.getElem?_toArray, List.getElem?_cons_succ, List.getElem?_cons_zero, Option.some.injEq]; rfl
                case hqv3_5 => exact fun _ _ _ h => h
                case hyv3_5 =>
                 refine Or.inl ⟨by kernel_rfl, fun V hV => ?_⟩
                 have q0 := (lateK_g hV).1; clear hV
                 go_simp
                intro hCv3_5 hSv3_5
                clear hCv3_4 hSv3_4
                try simp only [Go.Act.put, List.setIfInBounds_toArray, List.set_cons_zero, List.set_cons_succ]
                refine wpAnyS_take (i := 5) (oi := ?oiv3_6) (v := .pointer (some ⟨wj.heap.size, 0, none⟩)) ?hiv3_6 (by kernel_rfl) (by kernel_rfl) (by kernel_rfl) (lateK_iff (by rfl)) ?hqv3_6 ?hyv3_6 hCv3_5 hSv3_5 ?restv3_6
                case hiv3_6 => simp only [List.getElem?_toArray, List.getElem?_cons_succ, List.getElem?_cons_zero, Option.some.injEq]; rfl
                case hqv3_6 => exact fun _ _ _ h => h
                case hyv3_6 =>
                 refine Or.inl ⟨by kernel_rfl, fun V hV => ?_⟩
                 clear hV
                 go_simp
                intro hCv3_6 hSv3_6
                clear hCv3_5 hSv3_5
                try simp only [Go.Act.put, List.setIfInBounds_toArray, List.set_cons_zero, List.set_cons_succ]
                refine wpAnyS_take (i := 6) (oi := ?oiv3_7) (v := .int .i64 qx) ?hiv3_7 (by kernel_rfl) (by kernel_rfl) (by kernel_rfl) (lateK_iff (by rfl)) ?hqv3_7 ?hyv3_7 hCv3_6 hSv3_6 ?restv3_7
                case hiv3_7 => simp only [List.getElem?_toArray, List.getElem?_cons_succ, List.getElem?_cons_zero, Option.some.injEq]; rfl
                case hqv3_7 => exact fun _ _ _ h => h
                case hyv3_7 =>
                 refine Or.inl ⟨by kernel_rfl, fun V hV => ?_⟩
                 have q0 := (lateK_g hV).2.2.1; clear hV
                 go_simp
                intro hCv3_7 hSv3_7
                clear hCv3_6 hSv3_6
                try simp only [Go.Act.put, List.setIfInBounds_toArray, List.set_cons_zero, List.set_cons_succ]
                refine wpAnyS_take (i := 7) (oi := ?oiv3_8) (v := .int .i64 dx) ?hiv3_8 (by kernel_rfl) (by kernel_rfl) (by kernel_rfl) (lateK_iff (by rfl)) ?hqv3_8 ?hyv3_8 hCv3_7 hSv3_7 ?restv3_8
                case hiv3_8 => simp only [List.getElem?_toArray, List.getElem?_cons_succ, List.getElem?_cons_zero, Option.some.injEq]; rfl
                case hqv3_8 => exact fun _ _ _ h => h
                case hyv3_8 =>
                 refine Or.inl ⟨by kernel_rfl, fun V hV => ?_⟩
                 clear hV
                 go_simp
                intro hCv3_8 hSv3_8
                clear hCv3_7 hSv3_7
                try simp only [Go.Act.put, List.setIfInBounds_toArray, List.set_cons_zero, List.set_cons_succ]
                refine wpAnyS_take (i := 9) (oi := ?oiv3_9) (v := .pointer (some ⟨bx, 1, none⟩)) ?hiv3_9 (by kernel_rfl) (by kernel_rfl) (by kernel_rfl) (lateK_iff (by rfl)) ?hqv3_9 ?hyv3_9 hCv3_8 hSv3_8 ?restv3_9
                case hiv3_9 => simp only [List.getElem?_toArray, List.getElem?_cons_succ, List.getElem?_cons_zero, Option.some.injEq]; rfl
                case hqv3_9 => exact fun _ _ _ h => h
                case hyv3_9 =>
                 refine Or.inl ⟨by kernel_rfl, fun V hV => ?_⟩
                 clear hV
                 go_simp
                intro hCv3_9 hSv3_9
                clear hCv3_8 hSv3_8
                try simp only [Go.Act.put, List.setIfInBounds_toArray, List.set_cons_zero, List.set_cons_succ]
                refine wpAnyS_take (i := 10) (oi := ?oiv3_10) (v := .int .i64 py) ?hiv3_10 (by kernel_rfl) (by kernel_rfl) (by kernel_rfl) (lateK_iff (by rfl)) ?hqv3_10 ?hyv3_10 hCv3_9 hSv3_9 ?restv3_10
                case hiv3_10 => simp only [List.getElem?_toArray, List.getElem?_cons_succ, List.getElem?_cons_zero, Option.some.injEq]; rfl
                case hqv3_10 => exact fun _ _ _ h => h
                case hyv3_10 =>
                 refine Or.inl ⟨by kernel_rfl, fun V hV => ?_⟩
                 have q0 := (lateK_g hV).2.1; clear hV
                 go_simp
                intro hCv3_10 hSv3_10
                clear hCv3_9 hSv3_9
                try simp only [Go.Act.put, List.setIfInBounds_toArray, List.set_cons_zero, List.set_cons_succ]
                refine wpAnyS_take (i := 11) (oi := ?oiv3_11) (v := .pointer (some ⟨wj.heap.size, 1, none⟩)) ?hiv3_11 (by kernel_rfl) (by kernel_rfl) (by kernel_rfl) (lateK_iff (by rfl)) ?hqv3_11 ?hyv3_11 hCv3_10 hSv3_10 ?restv3_11
                case hiv3_11 => simp only [List.getElem?_toArray, List.getElem?_cons_succ, List.getElem?_cons_zero, Option.some.injEq]; rfl
                case hqv3_11 => exact fun _ _ _ h => h
                case hyv3_11 =>
                 refine Or.inl ⟨by kernel_rfl, fun V hV => ?_⟩
                 clear hV
                 go_simp
                intro hCv3_11 hSv3_11
                clear hCv3_10 hSv3_10
                try simp only [Go.Act.put, List.setIfInBounds_toArray, List.set_cons_zero, List.set_cons_succ]
                refine wpAnyS_take (i := 12) (oi := ?oiv3_12) (v := .int .i64 qy) ?hiv3_12 (by kernel_rfl) (by kernel_rfl) (by kernel_rfl) (lateK_iff (by rfl)) ?hqv3_12 ?hyv3_12 hCv3_11 hSv3_11 ?restv3_12
                case hiv3_12 => simp only [List.getElem?_toArray, List.getElem?_cons_succ, List.getElem?_cons_zero, Option.some.injEq]; rfl
                case hqv3_12 => exact fun _ _ _ h => h
                case hyv3_12 =>
                 refine Or.inl ⟨by kernel_rfl, fun V hV => ?_⟩
                 have q0 := (lateK_g hV).2.2.2; clear hV
                 go_simp
                intro hCv3_12 hSv3_12
                clear hCv3_11 hSv3_11
                try simp only [Go.Act.put, List.setIfInBounds_toArray, List.set_cons_zero, List.set_cons_succ]
                refine wpAnyS_take (i := 13) (oi := ?oiv3_13) (v := .int .i64 dy) ?hiv3_13 (by kernel_rfl) (by kernel_rfl) (by kernel_rfl) (lateK_iff (by rfl)) ?hqv3_13 ?hyv3_13 hCv3_12 hSv3_12 ?restv3_13
                case hiv3_13 => simp only [List.getElem?_toArray, List.getElem?_cons_succ, List.getElem?_cons_zero, Option.some.injEq]; rfl
                case hqv3_13 => exact fun _ _ _ h => h
                case hyv3_13 =>
                 refine Or.inl ⟨by kernel_rfl, fun V hV => ?_⟩
                 clear hV
                 go_simp
                intro hCv3_13 hSv3_13
                clear hCv3_12 hSv3_12
                try simp only [Go.Act.put, List.setIfInBounds_toArray, List.set_cons_zero, List.set_cons_succ]
                refine wpAnyS_ready (rs := [8]) (by kernel_rfl) (by simp) ?_
                refine AllReadyS.cons rfl hCv3_13 (fun K hK => ?_) AllReadyS.nil
                go_simp
                refine (mrsquare_is dx DX.out.1 DX.out.2 _ HX).mono ?_; rintro e w1 ⟨rfl, rfl⟩
                refine hK.out _ _ hG0 (fun hCv3_14 hSv3_14 => ?_)
                clear hK hCv3_13 hSv3_13 K
                try simp only [Go.Act.put, List.setIfInBounds_toArray, List.set_cons_zero, List.set_cons_succ]
                refine wpAnyS_ready (rs := [14]) (by kernel_rfl) (by simp) ?_
                refine AllReadyS.cons rfl hCv3_14 (fun K hK => ?_) AllReadyS.nil
                go_simp
                refine (mrsquare_is dy DY.out.1 DY.out.2 _ HY).mono ?_; rintro e w1 ⟨rfl, rfl⟩
                refine hK.out _ _ hG0 (fun hCv3_15 hSv3_15 => ?_)
                clear hK hCv3_14 hSv3_14 K
                try simp only [Go.Act.put, List.setIfInBounds_toArray, List.set_cons_zero, List.set_cons_succ]
                refine wpAnyS_take (i := 15) (oi := ?oiv3_16) (v := .int .i64 n) ?hiv3_16 (by kernel_rfl) (by kernel_rfl) (by kernel_rfl) (lateK_iff (by rfl)) ?hqv3_16 ?hyv3_16 hCv3_15 hSv3_15 ?restv3_16
                case hiv3_16 => simp only [List.getElem?_toArray, List.getElem?_cons_succ, List.getElem?_cons_zero, Option.some.injEq]; rfl
                case hqv3_16 => exact fun _ _ _ h => h
                case hyv3_16 =>
                 refine Or.inl ⟨by kernel_rfl, fun V hV => ?_⟩
                 clear hV
                 go_simp
                intro hCv3_16 hSv3_16
                clear hCv3_15 hSv3_15
                try simp only [Go.Act.put, List.setIfInBounds_toArray, List.set_cons_zero, List.set_cons_succ]
                refine wpAnyS_take (i := 16) (oi := ?oiv3_17) (v := .int .i64 n) ?hiv3_17 (by kernel_rfl) (by kernel_rfl) (by kernel_rfl) (lateK_iff (by rfl)) ?hqv3_17 ?hyv3_17 hCv3_16 hSv3_16 ?restv3_17
                case hiv3_17 => simp only [List.getElem?_toArray, List.getElem?_cons_succ, List.getElem?_cons_zero, Option.some.injEq]; rfl
                case hqv3_17 => exact fun _ _ _ h => h
                case hyv3_17 =>
                 refine Or.inl ⟨by kernel_rfl, fun V hV => ?_⟩
                 clear hV
                 go_simp
                intro hCv3_17 hSv3_17
                clear hCv3_16 hSv3_16
                try simp only [Go.Act.put, List.setIfInBounds_toArray, List.set_cons_zero, List.set_cons_succ]
                refine wpAnyS_take (i := 17) (oi := ?oiv3_18) (v := .pointer (some ⟨g1, j, none⟩)) ?hiv3_18 (by kernel_rfl) (by kernel_rfl) (by kernel_rfl) (lateK_iff (by rfl)) ?hqv3_18 ?hyv3_18 hCv3_17 hSv3_17 ?restv3_18
                case hiv3_18 => simp only [List.getElem?_toArray, List.getElem?_cons_succ, List.getElem?_cons_zero, Option.some.injEq]; rfl
                case hqv3_18 => exact fun _ _ _ h => h
                case hyv3_18 =>
                 refine Or.inl ⟨by kernel_rfl, fun V hV => ?_⟩
                 clear hV
                 go_simp
                intro hCv3_18 hSv3_18
                clear hCv3_17 hSv3_17
                try simp only [Go.Act.put, List.setIfInBounds_toArray, List.set_cons_zero, List.set_cons_succ]
                refine wpAnyS_ready (rs := [18]) (by kernel_rfl) (by simp) ?_
                refine AllReadyS.cons rfl hCv3_18 (fun K hK => ?_) AllReadyS.nil
                go_simp
                refine hK.out _ _ ⟨(World.cell?_setCell_other _ _ _ _ N4.out.1.symm).trans hG0.1, (World.cell?_setCell_other _ _ _ _ N4.out.2.1.symm).trans hG0.2.1, (World.cell?_setCell_other _ _ _ _ N4.out.2.2.1.symm).trans hG0.2.2.1, (World.cell?_setCell_other _ _ _ _ N4.out.2.2.2.symm).trans hG0.2.2.2⟩ (fun hCv3_19 hSv3_19 => ?_)
                clear hK hCv3_18 hSv3_18 K
                try simp only [Go.Act.put, List.setIfInBounds_toArray, List.set_cons_zero, List.set_cons_succ]
                refine wpAnyS_done (by kernel_rfl) ?_ _
                clear hCv3_19 hSv3_19
                have hd : frD (sqL a b) k j = n := by
                 have hp := HPJ.out
                 have ho := HOJ.out
                 have hc := HC.out
                 have hr := HDR.out
                 unfold frO at ho hc
                 rw [HK0.out] at *
                 rw [HJ0.out] at *
                 simp only [frD]
                 rw [hr, hp]
                 omega
                have HD2 := Lib.hid hd
                have HG4 := Lib.hid (mgrown_set GQ.out LG.out j (.int .i64 n))
                have HR4 : Hid (RowAt (wq.setCell ⟨g1, j, none⟩ (.int .i64 n)) g1 b.length (frM (sqL a b) k (j + 1))) := by
                 have q := HRQ.out.set j n
                 have e := frM_set (sqL a b) k j
                 rw [HD2.out] at e
                 rw [e] at q; exact q
                have HB4 : Hid ((wq.setCell ⟨g1, j, none⟩ (.int .i64 n)).heap[bx]? = some (.cells #[.int .i64 px, .int .i64 py] 64 (0, 0))) := by
                 show _ = _
                 rw [Below.heap_setCell _ _ _ _ (by show bx ≠ g1; exact fun e => NG.out e.symm)]; exact BXQ.out
                have HC4 : Hid (0 < j + 1 → oj = frO (sqL a b) k (j + 1 - 1)) := fun _ => by rw [Nat.add_sub_cancel]; exact HOJ.out.symm
                clear hd hG0 frq crq
                go_wp2_with fail
                go_roundw
                case rel => exact ⟨j + 1, oj, HJL.out, by go_num, rfl, HC4.out, HG4.out, HR4.out, HB4.out⟩
                case measure => have := HJL.out; simp [intOf]; omega
               ·
                go_upto_region 33 with (fail)
                have bq : (wj.alloc (.cells #[.int .i64 qx, .int .i64 qy] 64)).drew.heap[wj.heap.size]? = some (.cells #[.int .i64 qx, .int .i64 qy] 64 (0, 0)) := mheap_new wj _
                have gq : wj.grownBy (wj.alloc (.cells #[.int .i64 qx, .int .i64 qy] 64)).drew none := grown_trans (World.grownBy_alloc _ _ _) (grown_drewN _ _ 1)
                have bxq := mblock_at HBX.out gq (by simp)
                have HRQ := Lib.hid (HR.out.grown gq)
                have frq := HRQ.out.free j
                have crq := HRQ.out.cell (k := j) HJL.out
                have NJ : Hid (g1 ≠ wj.heap.size) := fun e => by have := lt_of_block (show wj.heap[g1]? = _ from HR.out); omega
                have hG0 : (fun V => V.cell? ⟨bx, 0, none⟩ = some (.int .i64 px) ∧ V.cell? ⟨bx, 1, none⟩ = some (.int .i64 py) ∧ V.cell? ⟨wj.heap.size, 0, none⟩ = some (.int .i64 qx) ∧ V.cell? ⟨wj.heap.size, 1, none⟩ = some (.int .i64 qy)) (wj.alloc (.cells #[.int .i64 qx, .int .i64 qy] 64)).drew := ⟨mblock_cell bxq 0 _ rfl, mblock_cell bxq 1 _ rfl, mblock_cell bq 0 _ rfl, mblock_cell bq 1 _ rfl⟩
                have BXQ := Lib.hid bxq
                have GQ := Lib.hid (grown_trans HGJ.out gq)
                clear xb0 xb1 cr0 cr bq bxq y0 y1 gq
                have n1 : (⟨bx, 0, none⟩ : Addr) ≠ ⟨g1, j, none⟩ := fun e => NG.out (congrArg Addr.block e).symm
                have n2 : (⟨bx, 1, none⟩ : Addr) ≠ ⟨g1, j, none⟩ := fun e => NG.out (congrArg Addr.block e).symm
                have n3 : (⟨wj.heap.size, 0, none⟩ : Addr) ≠ ⟨g1, j, none⟩ := fun e => NJ.out (congrArg Addr.block e).symm
                have n4 : (⟨wj.heap.size, 1, none⟩ : Addr) ≠ ⟨g1, j, none⟩ := fun e => NJ.out (congrArg Addr.block e).symm
                have N4 := Lib.hid (And.intro n1 (And.intro n2 (And.intro n3 n4)))
                clear n1 n2 n3 n4
                refine region_late (lateK (fun V => V.cell? ⟨bx, 0, none⟩ = some (.int .i64 px) ∧ V.cell? ⟨bx, 1, none⟩ = some (.int .i64 py) ∧ V.cell? ⟨wj.heap.size, 0, none⟩ = some (.int .i64 qx) ∧ V.cell? ⟨wj.heap.size, 1, none⟩ = some (.int .i64 qy)) []) (by kernel_rfl) hG0 (fun hCv4_0 hSv4_0 => ?_)
                generalize (wj.alloc (.cells #[.int .i64 qx, .int .i64 qy] 64)).drew = wq at *
                refine wpAnyS_take (i := 0) (oi := ?oiv4_1) (v := .slice (some ⟨g1, 0, none⟩) b.length b.length) ?hiv4_1 (by kernel_rfl) (by kernel_rfl) (by kernel_rfl) (lateK_iff (by rfl)) ?hqv4_1 ?hyv4_1 hCv4_0 hSv4_0 ?restv4_1
                case hiv4_1 => simp only [List.getElem?_toArray, List.getElem?_cons_succ, List.getElem?_cons_zero, Option.some.injEq]; rfl
                case hqv4_1 => exact fun _ _ _ h => h
                case hyv4_1 =>
                 refine Or.inl ⟨by kernel_rfl, fun V hV => ?_⟩
                 clear hV
                 go_simp
                intro hCv4_1 hSv4_1
                clear hCv4_0 hSv4_0
                try simp only [Go.Act.put, List.setIfInBounds_toArray, List.set_cons_zero, List.set_cons_succ]
                refine wpAnyS_take (i := 1) (oi := ?oiv4_2) (v := .int .i64 (j : Int)) ?hiv4_2 (by kernel_rfl) (by kernel_rfl) (by kernel_rfl) (lateK_iff (by rfl)) ?hqv4_2 ?hyv4_2 hCv4_1 hSv4_1 ?restv4_2
                case hiv4_2 => simp only [List.getElem?_toArray, List.getElem?_cons_succ, List.getElem?_cons_zero, Option.some.injEq]; rfl
                case hqv4_2 => exact fun _ _ _ h => h
                case hyv4_2 =>
                 refine Or.inl ⟨by kernel_rfl, fun V hV => ?_⟩
                 clear hV
                 go_simp
                intro hCv4_2 hSv4_2
                clear hCv4_1 hSv4_1
                try simp only [Go.Act.put, List.setIfInBounds_toArray, List.set_cons_zero, List.set_cons_succ]
                refine wpAnyS_take (i := 2) (oi := ?oiv4_3) (v := .int .i64 dr) ?hiv4_3 (by kernel_rfl) (by kernel_rfl) (by kernel_rfl) (lateK_iff (by rfl)) ?hqv4_3 ?hyv4_3 hCv4_2 hSv4_2 ?restv4_3
                case hiv4_3 => simp only [List.getElem?_toArray, List.getElem?_cons_succ, List.getElem?_cons_zero, Option.some.injEq]; rfl
                case hqv4_3 => exact fun _ _ _ h => h
                case hyv4_3 =>
                 refine Or.inl ⟨by kernel_rfl, fun V hV => ?_⟩
                 clear hV
                 go_simp
                intro hCv4_3 hSv4_3
                clear hCv4_2 hSv4_2
                try simp only [Go.Act.put, List.setIfInBounds_toArray, List.set_cons_zero, List.set_cons_succ]
                refine wpAnyS_take (i := 3) (oi := ?oiv4_4) (v := .pointer (some ⟨bx, 0, none⟩)) ?hiv4_4 (by kernel_rfl) (by kernel_rfl) (by kernel_rfl) (lateK_iff (by rfl)) ?hqv4_4 ?hyv4_4 hCv4_3 hSv4_3 ?restv4_4
                case hiv4_4 => simp only [List.getElem?_toArray, List.getElem?_cons_succ, List.getElem?_cons_zero, Option.some.injEq]; rfl
                case hqv4_4 => exact fun _ _ _ h => h
                case hyv4_4 =>
                 refine Or.inl ⟨by kernel_rfl, fun V hV => ?_⟩
                 clear hV
                 go_simp
                intro hCv4_4 hSv4_4
                clear hCv4_3 hSv4_3
                try simp only [Go.Act.put, List.setIfInBounds_toArray, List.set_cons_zero, List.set_cons_succ]
                refine wpAnyS_take (i := 4) (oi := ?oiv4_5) (v := .int .i64 px) ?hiv4_5 (by kernel_rfl) (by kernel_rfl) (by kernel_rfl) (lateK_iff (by rfl)) ?hqv4_5 ?hyv4_5 hCv4_4 hSv4_4 ?restv4_5
                case hiv4_5 => simp only [List.getElem?_toArray, List.getElem?_cons_succ, List.getElem?_cons_zero, Option.some.injEq]; rfl
                case hqv4_5 => exact fun _ _ _ h => h
                case hyv4_5 =>
                 refine Or.inl ⟨by kernel_rfl, fun V hV => ?_⟩
                 have q0 := (lateK_g hV).1; clear hV
                 go_simp
                intro hCv4_5 hSv4_5
                clear hCv4_4 hSv4_4
                try simp only [Go.Act.put, List.setIfInBounds_toArray, List.set_cons_zero, List.set_cons_succ]
                refine wpAnyS_take (i := 5) (oi := ?oiv4_6) (v := .pointer (some ⟨wj.heap.size, 0, none⟩)) ?hiv4_6 (by kernel_rfl) (by kernel_rfl) (by kernel_rfl) (lateK_iff (by rfl)) ?hqv4_6 ?hyv4_6 hCv4_5 hSv4_5 ?restv4_6
                case hiv4_6 => simp only [List.getElem?_toArray, List.getElem?_cons_succ, List.getElem?_cons_zero, Option.some.injEq]; rfl
                case hqv4_6 => exact fun _ _ _ h => h
                case hyv4_6 =>
                 refine Or.inl ⟨by kernel_rfl, fun V hV => ?_⟩
                 clear hV
                 go_simp
                intro hCv4_6 hSv4_6
                clear hCv4_5 hSv4_5
                try simp only [Go.Act.put, List.setIfInBounds_toArray, List.set_cons_zero, List.set_cons_succ]
                refine wpAnyS_take (i := 6) (oi := ?oiv4_7) (v := .int .i64 qx) ?hiv4_7 (by kernel_rfl) (by kernel_rfl) (by kernel_rfl) (lateK_iff (by rfl)) ?hqv4_7 ?hyv4_7 hCv4_6 hSv4_6 ?restv4_7
                case hiv4_7 => simp only [List.getElem?_toArray, List.getElem?_cons_succ, List.getElem?_cons_zero, Option.some.injEq]; rfl
                case hqv4_7 => exact fun _ _ _ h => h
                case hyv4_7 =>
                 refine Or.inl ⟨by kernel_rfl, fun V hV => ?_⟩
                 have q0 := (lateK_g hV).2.2.1; clear hV
                 go_simp
                intro hCv4_7 hSv4_7
                clear hCv4_6 hSv4_6
                try simp only [Go.Act.put, List.setIfInBounds_toArray, List.set_cons_zero, List.set_cons_succ]
                refine wpAnyS_take (i := 7) (oi := ?oiv4_8) (v := .int .i64 dx) ?hiv4_8 (by kernel_rfl) (by kernel_rfl) (by kernel_rfl) (lateK_iff (by rfl)) ?hqv4_8 ?hyv4_8 hCv4_7 hSv4_7 ?restv4_8
                case hiv4_8 => simp only [List.getElem?_toArray, List.getElem?_cons_succ, List.getElem?_cons_zero, Option.some.injEq]; rfl
                case hqv4_8 => exact fun _ _ _ h => h
                case hyv4_8 =>
                 refine Or.inl ⟨by kernel_rfl, fun V hV => ?_⟩
                 clear hV
                 go_simp
                intro hCv4_8 hSv4_8
                clear hCv4_7 hSv4_7
                try simp only [Go.Act.put, List.setIfInBounds_toArray, List.set_cons_zero, List.set_cons_succ]
                refine wpAnyS_take (i := 9) (oi := ?oiv4_9) (v := .pointer (some ⟨bx, 1, none⟩)) ?hiv4_9 (by kernel_rfl) (by kernel_rfl) (by kernel_rfl) (lateK_iff (by rfl)) ?hqv4_9 ?hyv4_9 hCv4_8 hSv4_8 ?restv4_9
                case hiv4_9 => simp only [List.getElem?_toArray, List.getElem?_cons_succ, List.getElem?_cons_zero, Option.some.injEq]; rfl
                case hqv4_9 => exact fun _ _ _ h => h
                case hyv4_9 =>
                 refine Or.inl ⟨by kernel_rfl, fun V hV => ?_⟩
                 clear hV
                 go_simp
                intro hCv4_9 hSv4_9
                clear hCv4_8 hSv4_8
                try simp only [Go.Act.put, List.setIfInBounds_toArray, List.set_cons_zero, List.set_cons_succ]
                refine wpAnyS_take (i := 10) (oi := ?oiv4_10) (v := .int .i64 py) ?hiv4_10 (by kernel_rfl) (by kernel_rfl) (by kernel_rfl) (lateK_iff (by rfl)) ?hqv4_10 ?hyv4_10 hCv4_9 hSv4_9 ?restv4_10
                case hiv4_10 => simp only [List.getElem?_toArray, List.getElem?_cons_succ, List.getElem?_cons_zero, Option.some.injEq]; rfl
                case hqv4_10 => exact fun _ _ _ h => h
                case hyv4_10 =>
                 refine Or.inl ⟨by kernel_rfl, fun V hV => ?_⟩
                 have q0 := (lateK_g hV).2.1; clear hV
                 go_simp
                intro hCv4_10 hSv4_10
                clear hCv4_9 hSv4_9
                try simp only [Go.Act.put, List.setIfInBounds_toArray, List.set_cons_zero, List.set_cons_succ]
                refine wpAnyS_take (i := 11) (oi := ?oiv4_11) (v := .pointer (some ⟨wj.heap.size, 1, none⟩)) ?hiv4_11 (by kernel_rfl) (by kernel_rfl) (by kernel_rfl) (lateK_iff (by rfl)) ?hqv4_11 ?hyv4_11 hCv4_10 hSv4_10 ?restv4_11
                case hiv4_11 => simp only [List.getElem?_toArray, List.getElem?_cons_succ, List.getElem?_cons_zero, Option.some.injEq]; rfl
                case hqv4_11 => exact fun _ _ _ h => h
                case hyv4_11 =>
                 refine Or.inl ⟨by kernel_rfl, fun V hV => ?_⟩
                 clear hV
                 go_simp
                intro hCv4_11 hSv4_11
                clear hCv4_10 hSv4_10
                try simp only [Go.Act.put, List.setIfInBounds_toArray, List.set_cons_zero, List.set_cons_succ]
                refine wpAnyS_take (i := 12) (oi := ?oiv4_12) (v := .int .i64 qy) ?hiv4_12 (by kernel_rfl) (by kernel_rfl) (by kernel_rfl) (lateK_iff (by rfl)) ?hqv4_12 ?hyv4_12 hCv4_11 hSv4_11 ?restv4_12
                case hiv4_12 => simp only [List.getElem?_toArray, List.getElem?_cons_succ, List.getElem?_cons_zero, Option.some.injEq]; rfl
                case hqv4_12 => exact fun _ _ _ h => h
                case hyv4_12 =>
                 refine Or.inl ⟨by kernel_rfl, fun V hV => ?_⟩
                 have q0 := (lateK_g hV).2.2.2; clear hV
                 go_simp
                intro hCv4_12 hSv4_12
                clear hCv4_11 hSv4_11
                try simp only [Go.Act.put, List.setIfInBounds_toArray, List.set_cons_zero, List.set_cons_succ]
                refine wpAnyS_take (i := 13) (oi := ?oiv4_13) (v := .int .i64 dy) ?hiv4_13 (by kernel_rfl) (by kernel_rfl) (by kernel_rfl) (lateK_iff (by rfl)) ?hqv4_13 ?hyv4_13 hCv4_12 hSv4_12 ?restv4_13
                case hiv4_13 => simp only [List.getElem?_toArray, List.getElem?_cons_succ, List.getElem?_cons_zero, Option.some.injEq]; rfl
                case hqv4_13 => exact fun _ _ _ h => h
                case hyv4_13 =>
                 refine Or.inl ⟨by kernel_rfl, fun V hV => ?_⟩
                 clear hV
                 go_simp
                intro hCv4_13 hSv4_13
                clear hCv4_12 hSv4_12
                try simp only [Go.Act.put, List.setIfInBounds_toArray, List.set_cons_zero, List.set_cons_succ]
                refine wpAnyS_ready (rs := [8]) (by kernel_rfl) (by simp) ?_
                refine AllReadyS.cons rfl hCv4_13 (fun K hK => ?_) AllReadyS.nil
                go_simp
                refine (mrsquare_is dx DX.out.1 DX.out.2 _ HX).mono ?_; rintro e w1 ⟨rfl, rfl⟩
                refine hK.out _ _ hG0 (fun hCv4_14 hSv4_14 => ?_)
                clear hK hCv4_13 hSv4_13 K
                try simp only [Go.Act.put, List.setIfInBounds_toArray, List.set_cons_zero, List.set_cons_succ]
                refine wpAnyS_ready (rs := [14]) (by kernel_rfl) (by simp) ?_
                refine AllReadyS.cons rfl hCv4_14 (fun K hK => ?_) AllReadyS.nil
                go_simp
                refine (mrsquare_is dy DY.out.1 DY.out.2 _ HY).mono ?_; rintro e w1 ⟨rfl, rfl⟩
                refine hK.out _ _ hG0 (fun hCv4_15 hSv4_15 => ?_)
                clear hK hCv4_14 hSv4_14 K
                try simp only [Go.Act.put, List.setIfInBounds_toArray, List.set_cons_zero, List.set_cons_succ]
                refine wpAnyS_take (i := 15) (oi := ?oiv4_16) (v := .int .i64 n) ?hiv4_16 (by kernel_rfl) (by kernel_rfl) (by kernel_rfl) (lateK_iff (by rfl)) ?hqv4_16 ?hyv4_16 hCv4_15 hSv4_15 ?restv4_16
                case hiv4_16 => simp only [List.getElem?_toArray, List.getElem?_cons_succ, List.getElem?_cons_zero, Option.some.injEq]; rfl
                case hqv4_16 => exact fun _ _ _ h => h
                case hyv4_16 =>
                 refine Or.inl ⟨by kernel_rfl, fun V hV => ?_⟩
                 clear hV
                 go_simp
                intro hCv4_16 hSv4_16
                clear hCv4_15 hSv4_15
                try simp only [Go.Act.put, List.setIfInBounds_toArray, List.set_cons_zero, List.set_cons_succ]
                refine wpAnyS_take (i := 16) (oi := ?oiv4_17) (v := .int .i64 dr) ?hiv4_17 (by kernel_rfl) (by kernel_rfl) (by kernel_rfl) (lateK_iff (by rfl)) ?hqv4_17 ?hyv4_17 hCv4_16 hSv4_16 ?restv4_17
                case hiv4_17 => simp only [List.getElem?_toArray, List.getElem?_cons_succ, List.getElem?_cons_zero, Option.some.injEq]; rfl
                case hqv4_17 => exact fun _ _ _ h => h
                case hyv4_17 =>
                 refine Or.inl ⟨by kernel_rfl, fun V hV => ?_⟩
                 clear hV
                 go_simp
                intro hCv4_17 hSv4_17
                clear hCv4_16 hSv4_16
                try simp only [Go.Act.put, List.setIfInBounds_toArray, List.set_cons_zero, List.set_cons_succ]
                refine wpAnyS_take (i := 17) (oi := ?oiv4_18) (v := .pointer (some ⟨g1, j, none⟩)) ?hiv4_18 (by kernel_rfl) (by kernel_rfl) (by kernel_rfl) (lateK_iff (by rfl)) ?hqv4_18 ?hyv4_18 hCv4_17 hSv4_17 ?restv4_18
                case hiv4_18 => simp only [List.getElem?_toArray, List.getElem?_cons_succ, List.getElem?_cons_zero, Option.some.injEq]; rfl
                case hqv4_18 => exact fun _ _ _ h => h
                case hyv4_18 =>
                 refine Or.inl ⟨by kernel_rfl, fun V hV => ?_⟩
                 clear hV
                 go_simp
                intro hCv4_18 hSv4_18
                clear hCv4_17 hSv4_17
                try simp only [Go.Act.put, List.setIfInBounds_toArray, List.set_cons_zero, List.set_cons_succ]
                refine wpAnyS_ready (rs := [18]) (by kernel_rfl) (by simp) ?_
                refine AllReadyS.cons rfl hCv4_18 (fun K hK => ?_) AllReadyS.nil
                go_simp
                refine hK.out _ _ ⟨(World.cell?_setCell_other _ _ _ _ N4.out.1.symm).trans hG0.1, (World.cell?_setCell_other _ _ _ _ N4.out.2.1.symm).trans hG0.2.1, (World.cell?_setCell_other _ _ _ _ N4.out.2.2.1.symm).trans hG0.2.2.1, (World.cell?_setCell_other _ _ _ _ N4.out.2.2.2.symm).trans hG0.2.2.2⟩ (fun hCv4_19 hSv4_19 => ?_)
                clear hK hCv4_18 hSv4_18 K
                try simp only [Go.Act.put, List.setIfInBounds_toArray, List.set_cons_zero, List.set_cons_succ]
                refine wpAnyS_done (by kernel_rfl) ?_ _
                clear hCv4_19 hSv4_19
                have hd : frD (sqL a b) k j = dr := by
                 have hp := HPJ.out
                 have ho := HOJ.out
                 have hc := HC.out
                 have hr := HDR.out
                 unfold frO at ho hc
                 rw [HK0.out] at *
                 rw [HJ0.out] at *
                 simp only [frD]
                 rw [hr, hp]
                 omega
                have HD2 := Lib.hid hd
                have HG4 := Lib.hid (mgrown_set GQ.out LG.out j (.int .i64 dr))
                have HR4 : Hid (RowAt (wq.setCell ⟨g1, j, none⟩ (.int .i64 dr)) g1 b.length (frM (sqL a b) k (j + 1))) := by
                 have q := HRQ.out.set j dr
                 have e := frM_set (sqL a b) k j
                 rw [HD2.out] at e
                 rw [e] at q; exact q
                have HB4 : Hid ((wq.setCell ⟨g1, j, none⟩ (.int .i64 dr)).heap[bx]? = some (.cells #[.int .i64 px, .int .i64 py] 64 (0, 0))) := by
                 show _ = _
                 rw [Below.heap_setCell _ _ _ _ (by show bx ≠ g1; exact fun e => NG.out e.symm)]; exact BXQ.out
                have HC4 : Hid (0 < j + 1 → oj = frO (sqL a b) k (j + 1 - 1)) := fun _ => by rw [Nat.add_sub_cancel]; exact HOJ.out.symm
                clear hd hG0 frq crq
                go_wp2_with fail
                go_roundw
                case rel => exact ⟨j + 1, oj, HJL.out, by go_num, rfl, HC4.out, HG4.out, HR4.out, HB4.out⟩
                case measure => have := HJL.out; simp [intOf]; omega
             ·
              by_cases jz : j = 0
              ·
               have q1 : decide ((k : Int) = 0) = false := decide_eq_false (by omega)
               have q1b : ((k : Int) == 0) = false := beq_eq_false_iff_ne.2 (by omega)
               have p1 : decide ((j : Int) = 0) = true := decide_eq_true (by omega)
               have p1b : ((j : Int) == 0) = true := beq_iff_eq.2 (by omega)
               have p2 : decide ((0 : Int) < (j : Int)) = false := decide_eq_false (by omega)
               have p2p : ¬ (0 : Int) < (j : Int) := by omega
               obtain ⟨k1, hk1⟩ : ∃ k1, k = k1 + 1 := ⟨k - 1, by omega⟩
               have HK0 := Lib.hid hk1
               clear hk1
               have HJ0 := Lib.hid jz
               clear kz jz
               rcases (by omega : oj < n ∨ ¬ oj < n) with hm | hm
               ·
                go_upto_region 33 with (fail)
                have bq : (wj.alloc (.cells #[.int .i64 qx, .int .i64 qy] 64)).drew.heap[wj.heap.size]? = some (.cells #[.int .i64 qx, .int .i64 qy] 64 (0, 0)) := mheap_new wj _
                have gq : wj.grownBy (wj.alloc (.cells #[.int .i64 qx, .int .i64 qy] 64)).drew none := grown_trans (World.grownBy_alloc _ _ _) (grown_drewN _ _ 1)
                have bxq := mblock_at HBX.out gq (by simp)
                have HRQ := Lib.hid (HR.out.grown gq)
                have frq := HRQ.out.free j
                have crq := HRQ.out.cell (k := j) HJL.out
                have NJ : Hid (g1 ≠ wj.heap.size) := fun e => by have := lt_of_block (show wj.heap[g1]? = _ from HR.out); omega
                have hG0 : (fun V => V.cell? ⟨bx, 0, none⟩ = some (.int .i64 px) ∧ V.cell? ⟨bx, 1, none⟩ = some (.int .i64 py) ∧ V.cell? ⟨wj.heap.size, 0, none⟩ = some (.int .i64 qx) ∧ V.cell? ⟨wj.heap.size, 1, none⟩ = some (.int .i64 qy)) (wj.alloc (.cells #[.int .i64 qx, .int .i64 qy] 64)).drew := ⟨mblock_cell bxq 0 _ rfl, mblock_cell bxq 1 _ rfl, mblock_cell bq 0 _ rfl, mblock_cell bq 1 _ rfl⟩
                have BXQ := Lib.hid bxq
                have GQ := Lib.hid (grown_trans HGJ.out gq)
                clear xb0 xb1 cr0 bq bxq y0 y1 gq
                have n1 : (⟨bx, 0, none⟩ : Addr) ≠ ⟨g1, j, none⟩ := fun e => NG.out (congrArg Addr.block e).symm
                have n2 : (⟨bx, 1, none⟩ : Addr) ≠ ⟨g1, j, none⟩ := fun e => NG.out (congrArg Addr.block e).symm
                have n3 : (⟨wj.heap.size, 0, none⟩ : Addr) ≠ ⟨g1, j, none⟩ := fun e => NJ.out (congrArg Addr.block e).symm
                have n4 : (⟨wj.heap.size, 1, none⟩ : Addr) ≠ ⟨g1, j, none⟩ := fun e => NJ.out (congrArg Addr.block e).symm
                have N4 := Lib.hid (And.intro n1 (And.intro n2 (And.intro n3 n4)))
                clear n1 n2 n3 n4
                refine region_late (lateK (fun V => V.cell? ⟨bx, 0, none⟩ = some (.int .i64 px) ∧ V.cell? ⟨bx, 1, none⟩ = some (.int .i64 py) ∧ V.cell? ⟨wj.heap.size, 0, none⟩ = some (.int .i64 qx) ∧ V.cell? ⟨wj.heap.size, 1, none⟩ = some (.int .i64 qy)) []) (by kernel_rfl) hG0 (fun hCv5_0 hSv5_0 => ?_)
                generalize (wj.alloc (.cells #[.int .i64 qx, .int .i64 qy] 64)).drew = wq at *
                refine wpAnyS_take (i := 0) (oi := ?oiv5_1) (v := .slice (some ⟨g1, 0, none⟩) b.length b.length) ?hiv5_1 (by kernel_rfl) (by kernel_rfl) (by kernel_rfl) (lateK_iff (by rfl)) ?hqv5_1 ?hyv5_1 hCv5_0 hSv5_0 ?restv5_1
                case hiv5_1 => simp only [List.getElem?_toArray, List.getElem?_cons_succ, List.getElem?_cons_zero, Option.some.injEq]; rfl
                case hqv5_1 => exact fun _ _ _ h => h
                case hyv5_1 =>
                 refine Or.inl ⟨by kernel_rfl, fun V hV => ?_⟩
                 clear hV
                 go_simp
                intro hCv5_1 hSv5_1
                clear hCv5_0 hSv5_0
                try simp only [Go.Act.put, List.setIfInBounds_toArray, List.set_cons_zero, List.set_cons_succ]
                refine wpAnyS_take (i := 1) (oi := ?oiv5_2) (v := .int .i64 (j : Int)) ?hiv5_2 (by kernel_rfl) (by kernel_rfl) (by kernel_rfl) (lateK_iff (by rfl)) ?hqv5_2 ?hyv5_2 hCv5_1 hSv5_1 ?restv5_2
                case hiv5_2 => simp only [List.getElem?_toArray, List.getElem?_cons_succ, List.getElem?_cons_zero, Option.some.injEq]; rfl
                case hqv5_2 => exact fun _ _ _ h => h
                case hyv5_2 =>
                 refine Or.inl ⟨by kernel_rfl, fun V hV => ?_⟩
                 clear hV
                 go_simp
                intro hCv5_2 hSv5_2
                clear hCv5_1 hSv5_1
                try simp only [Go.Act.put, List.setIfInBounds_toArray, List.set_cons_zero, List.set_cons_succ]
                refine wpAnyS_take (i := 2) (oi := ?oiv5_3) (v := .int .i64 oj) ?hiv5_3 (by kernel_rfl) (by kernel_rfl) (by kernel_rfl) (lateK_iff (by rfl)) ?hqv5_3 ?hyv5_3 hCv5_2 hSv5_2 ?restv5_3
                case hiv5_3 => simp only [List.getElem?_toArray, List.getElem?_cons_succ, List.getElem?_cons_zero, Option.some.injEq]; rfl
                case hqv5_3 => exact fun _ _ _ h => h
                case hyv5_3 =>
                 refine Or.inl ⟨by kernel_rfl, fun V hV => ?_⟩
                 clear hV
                 go_simp
                intro hCv5_3 hSv5_3
                clear hCv5_2 hSv5_2
                try simp only [Go.Act.put, List.setIfInBounds_toArray, List.set_cons_zero, List.set_cons_succ]
                refine wpAnyS_take (i := 3) (oi := ?oiv5_4) (v := .pointer (some ⟨bx, 0, none⟩)) ?hiv5_4 (by kernel_rfl) (by kernel_rfl) (by kernel_rfl) (lateK_iff (by rfl)) ?hqv5_4 ?hyv5_4 hCv5_3 hSv5_3 ?restv5_4
                case hiv5_4 => simp only [List.getElem?_toArray, List.getElem?_cons_succ, List.getElem?_cons_zero, Option.some.injEq]; rfl
                case hqv5_4 => exact fun _ _ _ h => h
                case hyv5_4 =>
                 refine Or.inl ⟨by kernel_rfl, fun V hV => ?_⟩
                 clear hV
                 go_simp
                intro hCv5_4 hSv5_4
                clear hCv5_3 hSv5_3
                try simp only [Go.Act.put, List.setIfInBounds_toArray, List.set_cons_zero, List.set_cons_succ]
                refine wpAnyS_take (i := 4) (oi := ?oiv5_5) (v := .int .i64 px) ?hiv5_5 (by kernel_rfl) (by kernel_rfl) (by kernel_rfl) (lateK_iff (by rfl)) ?hqv5_5 ?hyv5_5 hCv5_4 hSv5_4 ?restv5_5
                case hiv5_5 => simp only [List.getElem?_toArray, List.getElem?_cons_succ, List.getElem?_cons_zero, Option.some.injEq]; rfl
                case hqv5_5 => exact fun _ _ _ h => h
                case hyv5_5 =>
                 refine Or.inl ⟨by kernel_rfl, fun V hV => ?_⟩
                 have q0 := (lateK_g hV).1; clear hV
                 go_simp
                intro hCv5_5 hSv5_5
                clear hCv5_4 hSv5_4
                try simp only [Go.Act.put, List.setIfInBounds_toArray, List.set_cons_zero, List.set_cons_succ]
                refine wpAnyS_take (i := 5) (oi := ?oiv5_6) (v := .pointer (some ⟨wj.heap.size, 0, none⟩)) ?hiv5_6 (by kernel_rfl) (by kernel_rfl) (by kernel_rfl) (lateK_iff (by rfl)) ?hqv5_6 ?hyv5_6 hCv5_5 hSv5_5 ?restv5_6
                case hiv5_6 => simp only [List.getElem?_toArray, List.getElem?_cons_succ, List.getElem?_cons_zero, Option.some.injEq]; rfl
                case hqv5_6 => exact fun _ _ _ h => h
                case hyv5_6 =>
                 refine Or.inl ⟨by kernel_rfl, fun V hV => ?_⟩
                 clear hV
                 go_simp
                intro hCv5_6 hSv5_6
                clear hCv5_5 hSv5_5
                try simp only [Go.Act.put, List.setIfInBounds_toArray, List.set_cons_zero, List.set_cons_succ]
                refine wpAnyS_take (i := 6) (oi := ?oiv5_7) (v := .int .i64 qx) ?hiv5_7 (by kernel_rfl) (by kernel_rfl) (by kernel_rfl) (lateK_iff (by rfl)) ?hqv5_7 ?hyv5_7 hCv5_6 hSv5_6 ?restv5_7
                case hiv5_7 => simp only [List.getElem?_toArray, List.getElem?_cons_succ, List.getElem?_cons_zero, Option.some.injEq]; rfl
                case hqv5_7 => exact fun _ _ _ h => h
                case hyv5_7 =>
                 refine Or.inl ⟨by kernel_rfl, fun V hV => ?_⟩
                 have q0 := (lateK_g hV).2.2.1; clear hV
                 go_simp
                intro hCv5_7 hSv5_7
                clear hCv5_6 hSv5_6
                try simp only [Go.Act.put, List.setIfInBounds_toArray, List.set_cons_zero, List.set_cons_succ]
                refine wpAnyS_take (i := 7) (oi := ?oiv5_8) (v := .int .i64 dx) ?hiv5_8 (by kernel_rfl) (by kernel_rfl) (by kernel_rfl) (lateK_iff (by rfl)) ?hqv5_8 ?hyv5_8 hCv5_7 hSv5_7 ?restv5_8
                case hiv5_8 => simp only [List.getElem?_toArray, List.getElem?_cons_succ, List.getElem?_cons_zero, Option.some.injEq]; rfl
                case hqv5_8 => exact fun _ _ _ h => h
                case hyv5_8 =>
                 refine Or.inl ⟨by kernel_rfl, fun V hV => ?_⟩
                 clear hV
                 go_simp
                intro hCv5_8 hSv5_8
                clear hCv5_7 hSv5_7
                try simp only [Go.Act.put, List.setIfInBounds_toArray, List.set_cons_zero, List.set_cons_succ]
                refine wpAnyS_take (i := 9) (oi := ?oiv5_9) (v := .pointer (some ⟨bx, 1, none⟩)) ?hiv5_9 (by kernel_rfl) (by kernel_rfl) (by kernel_rfl) (lateK_iff (by rfl)) ?hqv5_9 ?hyv5_9 hCv5_8 hSv5_8 ?restv5_9
                case hiv5_9 => simp only [List.getElem?_toArray, List.getElem?_cons_succ, List.getElem?_cons_zero, Option.some.injEq]; rfl
                case hqv5_9 => exact fun _ _ _ h => h
                case hyv5_9 =>
                 refine Or.inl ⟨by kernel_rfl, fun V hV => ?_⟩
                 clear hV
                 go_simp
                intro hCv5_9 hSv5_9
                clear hCv5_8 hSv5_8
                try simp only [Go.Act.put, List.setIfInBounds_toArray, List.set_cons_zero, List.set_cons_succ]
                refine wpAnyS_take (i := 10) (oi := ?oiv5_10) (v := .int .i64 py) ?hiv5_10 (by kernel_rfl) (by kernel_rfl) (by kernel_rfl) (lateK_iff (by rfl)) ?hqv5_10 ?hyv5_10 hCv5_9 hSv5_9 ?restv5_10
                case hiv5_10 => simp only [List.getElem?_toArray, List.getElem?_cons_succ, List.getElem?_cons_zero, Option.some.injEq]; rfl
                case hqv5_10 => exact fun _ _ _ h => h
                case hyv5_10 =>
                 refine Or.inl ⟨by kernel_rfl, fun V hV => ?_⟩
                 have q0 := (lateK_g hV).2.1; clear hV
                 go_simp
                intro hCv5_10 hSv5_10
                clear hCv5_9 hSv5_9
                try simp only [Go.Act.put, List.setIfInBounds_toArray, List.set_cons_zero, List.set_cons_succ]
                refine wpAnyS_take (i := 11) (oi := ?oiv5_11) (v := .pointer (some ⟨wj.heap.size, 1, none⟩)) ?hiv5_11 (by kernel_rfl) (by kernel_rfl) (by kernel_rfl) (lateK_iff (by rfl)) ?hqv5_11 ?hyv5_11 hCv5_10 hSv5_10 ?restv5_11
                case hiv5_11 => simp only [List.getElem?_toArray, List.getElem?_cons_succ, List.getElem?_cons_zero, Option.some.injEq]; rfl
                case hqv5_11 => exact fun _ _ _ h => h
                case hyv5_11 =>
                 refine Or.inl ⟨by kernel_rfl, fun V hV => ?_⟩
                 clear hV
                 go_simp
                intro hCv5_11 hSv5_11
                clear hCv5_10 hSv5_10
                try simp only [Go.Act.put, List.setIfInBounds_toArray, List.set_cons_zero, List.set_cons_succ]
                refine wpAnyS_take (i := 12) (oi := ?oiv5_12) (v := .int .i64 qy) ?hiv5_12 (by kernel_rfl) (by kernel_rfl) (by kernel_rfl) (lateK_iff (by rfl)) ?hqv5_12 ?hyv5_12 hCv5_11 hSv5_11 ?restv5_12
                case hiv5_12 => simp only [List.getElem?_toArray, List.getElem?_cons_succ, List.getElem?_cons_zero, Option.some.injEq]; rfl
                case hqv5_12 => exact fun _ _ _ h => h
                case hyv5_12 =>
                 refine Or.inl ⟨by kernel_rfl, fun V hV => ?_⟩
                 have q0 := (lateK_g hV).2.2.2; clear hV
                 go_simp
                intro hCv5_12 hSv5_12
                clear hCv5_11 hSv5_11
                try simp only [Go.Act.put, List.setIfInBounds_toArray, List.set_cons_zero, List.set_cons_succ]
                refine wpAnyS_take (i := 13) (oi := ?oiv5_13) (v := .int .i64 dy) ?hiv5_13 (by kernel_rfl) (by kernel_rfl) (by kernel_rfl) (lateK_iff (by rfl)) ?hqv5_13 ?hyv5_13 hCv5_12 hSv5_12 ?restv5_13
                case hiv5_13 => simp only [List.getElem?_toArray, List.getElem?_cons_succ, List.getElem?_cons_zero, Option.some.injEq]; rfl
                case hqv5_13 => exact fun _ _ _ h => h
                case hyv5_13 =>
                 refine Or.inl ⟨by kernel_rfl, fun V hV => ?_⟩
                 clear hV
                 go_simp
                intro hCv5_13 hSv5_13
                clear hCv5_12 hSv5_12
                try simp only [Go.Act.put, List.setIfInBounds_toArray, List.set_cons_zero, List.set_cons_succ]
                refine wpAnyS_ready (rs := [8]) (by kernel_rfl) (by simp) ?_
                refine AllReadyS.cons rfl hCv5_13 (fun K hK => ?_) AllReadyS.nil
                go_simp
                refine (mrsquare_is dx DX.out.1 DX.out.2 _ HX).mono ?_; rintro e w1 ⟨rfl, rfl⟩
                refine hK.out _ _ hG0 (fun hCv5_14 hSv5_14 => ?_)
                clear hK hCv5_13 hSv5_13 K
                try simp only [Go.Act.put, List.setIfInBounds_toArray, List.set_cons_zero, List.set_cons_succ]
                refine wpAnyS_ready (rs := [14]) (by kernel_rfl) (by simp) ?_
                refine AllReadyS.cons rfl hCv5_14 (fun K hK => ?_) AllReadyS.nil
                go_simp
                refine (mrsquare_is dy DY.out.1 DY.out.2 _ HY).mono ?_; rintro e w1 ⟨rfl, rfl⟩
                refine hK.out _ _ hG0 (fun hCv5_15 hSv5_15 => ?_)
                clear hK hCv5_14 hSv5_14 K
                try simp only [Go.Act.put, List.setIfInBounds_toArray, List.set_cons_zero, List.set_cons_succ]
                refine wpAnyS_take (i := 15) (oi := ?oiv5_16) (v := .int .i64 n) ?hiv5_16 (by kernel_rfl) (by kernel_rfl) (by kernel_rfl) (lateK_iff (by rfl)) ?hqv5_16 ?hyv5_16 hCv5_15 hSv5_15 ?restv5_16
                case hiv5_16 => simp only [List.getElem?_toArray, List.getElem?_cons_succ, List.getElem?_cons_zero, Option.some.injEq]; rfl
                case hqv5_16 => exact fun _ _ _ h => h
                case hyv5_16 =>
                 refine Or.inl ⟨by kernel_rfl, fun V hV => ?_⟩
                 clear hV
                 go_simp
                intro hCv5_16 hSv5_16
                clear hCv5_15 hSv5_15
                try simp only [Go.Act.put, List.setIfInBounds_toArray, List.set_cons_zero, List.set_cons_succ]
                refine wpAnyS_take (i := 16) (oi := ?oiv5_17) (v := .int .i64 n) ?hiv5_17 (by kernel_rfl) (by kernel_rfl) (by kernel_rfl) (lateK_iff (by rfl)) ?hqv5_17 ?hyv5_17 hCv5_16 hSv5_16 ?restv5_17
                case hiv5_17 => simp only [List.getElem?_toArray, List.getElem?_cons_succ, List.getElem?_cons_zero, Option.some.injEq]; rfl
                case hqv5_17 => exact fun _ _ _ h => h
                case hyv5_17 =>
                 refine Or.inl ⟨by kernel_rfl, fun V hV => ?_⟩
                 clear hV
                 go_simp
                intro hCv5_17 hSv5_17
                clear hCv5_16 hSv5_16
                try simp only [Go.Act.put, List.setIfInBounds_toArray, List.set_cons_zero, List.set_cons_succ]
                refine wpAnyS_take (i := 17) (oi := ?oiv5_18) (v := .pointer (some ⟨g1, j, none⟩)) ?hiv5_18 (by kernel_rfl) (by kernel_rfl) (by kernel_rfl) (lateK_iff (by rfl)) ?hqv5_18 ?hyv5_18 hCv5_17 hSv5_17 ?restv5_18
                case hiv5_18 => simp only [List.getElem?_toArray, List.getElem?_cons_succ, List.getElem?_cons_zero, Option.some.injEq]; rfl
                case hqv5_18 => exact fun _ _ _ h => h
                case hyv5_18 =>
                 refine Or.inl ⟨by kernel_rfl, fun V hV => ?_⟩
                 clear hV
                 go_simp
                intro hCv5_18 hSv5_18
                clear hCv5_17 hSv5_17
                try simp only [Go.Act.put, List.setIfInBounds_toArray, List.set_cons_zero, List.set_cons_succ]
                refine wpAnyS_ready (rs := [18]) (by kernel_rfl) (by simp) ?_
                refine AllReadyS.cons rfl hCv5_18 (fun K hK => ?_) AllReadyS.nil
                go_simp
                refine hK.out _ _ ⟨(World.cell?_setCell_other _ _ _ _ N4.out.1.symm).trans hG0.1, (World.cell?_setCell_other _ _ _ _ N4.out.2.1.symm).trans hG0.2.1, (World.cell?_setCell_other _ _ _ _ N4.out.2.2.1.symm).trans hG0.2.2.1, (World.cell?_setCell_other _ _ _ _ N4.out.2.2.2.symm).trans hG0.2.2.2⟩ (fun hCv5_19 hSv5_19 => ?_)
                clear hK hCv5_18 hSv5_18 K
                try simp only [Go.Act.put, List.setIfInBounds_toArray, List.set_cons_zero, List.set_cons_succ]
                refine wpAnyS_done (by kernel_rfl) ?_ _
                clear hCv5_19 hSv5_19
                have hd : frD (sqL a b) k j = n := by
                 have hp := HPJ.out
                 have ho := HOJ.out
                 have hc := HC.out
                 unfold frO at ho hc
                 rw [HK0.out, HJ0.out] at *
                 rw [if_neg (by omega)] at ho
                 simp only [frD]
                 rw [Nat.add_sub_cancel] at ho
                 rw [ho, hp]
                 omega
                have HD2 := Lib.hid hd
                have HG4 := Lib.hid (mgrown_set GQ.out LG.out j (.int .i64 n))
                have HR4 : Hid (RowAt (wq.setCell ⟨g1, j, none⟩ (.int .i64 n)) g1 b.length (frM (sqL a b) k (j + 1))) := by
                 have q := HRQ.out.set j n
                 have e := frM_set (sqL a b) k j
                 rw [HD2.out] at e
                 rw [e] at q; exact q
                have HB4 : Hid ((wq.setCell ⟨g1, j, none⟩ (.int .i64 n)).heap[bx]? = some (.cells #[.int .i64 px, .int .i64 py] 64 (0, 0))) := by
                 show _ = _
                 rw [Below.heap_setCell _ _ _ _ (by show bx ≠ g1; exact fun e => NG.out e.symm)]; exact BXQ.out
                have HC4 : Hid (0 < j + 1 → oj = frO (sqL a b) k (j + 1 - 1)) := fun _ => by rw [Nat.add_sub_cancel]; exact HOJ.out.symm
                clear hd hG0 frq crq
                go_wp2_with fail
                go_roundw
                case rel => exact ⟨j + 1, oj, HJL.out, by go_num, rfl, HC4.out, HG4.out, HR4.out, HB4.out⟩
                case measure => have := HJL.out; simp [intOf]; omega
               ·
                go_upto_region 33 with (fail)
                have bq : (wj.alloc (.cells #[.int .i64 qx, .int .i64 qy] 64)).drew.heap[wj.heap.size]? = some (.cells #[.int .i64 qx, .int .i64 qy] 64 (0, 0)) := mheap_new wj _
                have gq : wj.grownBy (wj.alloc (.cells #[.int .i64 qx, .int .i64 qy] 64)).drew none := grown_trans (World.grownBy_alloc _ _ _) (grown_drewN _ _ 1)
                have bxq := mblock_at HBX.out gq (by simp)
                have HRQ := Lib.hid (HR.out.grown gq)
                have frq := HRQ.out.free j
                have crq := HRQ.out.cell (k := j) HJL.out
                have NJ : Hid (g1 ≠ wj.heap.size) := fun e => by have := lt_of_block (show wj.heap[g1]? = _ from HR.out); omega
                have hG0 : (fun V => V.cell? ⟨bx, 0, none⟩ = some (.int .i64 px) ∧ V.cell? ⟨bx, 1, none⟩ = some (.int .i64 py) ∧ V.cell? ⟨wj.heap.size, 0, none⟩ = some (.int .i64 qx) ∧ V.cell? ⟨wj.heap.size, 1, none⟩ = some (.int .i64 qy)) (wj.alloc (.cells #[.int .i64 qx, .int .i64 qy] 64)).drew := ⟨mblock_cell bxq 0 _ rfl, mblock_cell bxq 1 _ rfl, mblock_cell bq 0 _ rfl, mblock_cell bq 1 _ rfl⟩
                have BXQ := Lib.hid bxq
                have GQ := Lib.hid (grown_trans HGJ.out gq)
                clear xb0 xb1 cr0 bq bxq y0 y1 gq
                have n1 : (⟨bx, 0, none⟩ : Addr) ≠ ⟨g1, j, none⟩ := fun e => NG.out (congrArg Addr.block e).symm
                have n2 : (⟨bx, 1, none⟩ : Addr) ≠ ⟨g1, j, none⟩ := fun e => NG.out (congrArg Addr.block e).symm
                have n3 : (⟨wj.heap.size, 0, none⟩ : Addr) ≠ ⟨g1, j, none⟩ := fun e => NJ.out (congrArg Addr.block e).symm
                have n4 : (⟨wj.heap.size, 1, none⟩ : Addr) ≠ ⟨g1, j, none⟩ := fun e => NJ.out (congrArg Addr.block e).symm
                have N4 := Lib.hid (And.intro n1 (And.intro n2 (And.intro n3 n4)))
                clear n1 n2 n3 n4
                refine region_late (lateK (fun V => V.cell? ⟨bx, 0, none⟩ = some (.int .i64 px) ∧ V.cell? ⟨bx, 1, none⟩ = some (.int .i64 py) ∧ V.cell? ⟨wj.heap.size, 0, none⟩ = some (.int .i64 qx) ∧ V.cell? ⟨wj.heap.size, 1, none⟩ = some (.int .i64 qy)) []) (by kernel_rfl) hG0 (fun hCv6_0 hSv6_0 => ?_)
                generalize (wj.alloc (.cells #[.int .i64 qx, .int .i64 qy] 64)).drew = wq at *
                refine wpAnyS_take (i := 0) (oi := ?oiv6_1) (v := .slice (some ⟨g1, 0, none⟩) b.length b.length) ?hiv6_1 (by kernel_rfl) (by kernel_rfl) (by kernel_rfl) (lateK_iff (by rfl)) ?hqv6_1 ?hyv6_1 hCv6_0 hSv6_0 ?restv6_1
                case hiv6_1 => simp only [List.getElem?_toArray, List.getElem?_cons_succ, List.getElem?_cons_zero, Option.some.injEq]; rfl
                case hqv6_1 => exact fun _ _ _ h => h
                case hyv6_1 =>
                 refine Or.inl ⟨by kernel_rfl, fun V hV => ?_⟩
                 clear hV
                 go_simp
                intro hCv6_1 hSv6_1
                clear hCv6_0 hSv6_0
                try simp only [Go.Act.put, List.setIfInBounds_toArray, List.set_cons_zero, List.set_cons_succ]
                refine wpAnyS_take (i := 1) (oi := ?oiv6_2) (v := .int .i64 (j : Int)) ?hiv6_2 (by kernel_rfl) (by kernel_rfl) (by kernel_rfl) (lateK_iff (by rfl)) ?hqv6_2 ?hyv6_2 hCv6_1 hSv6_1 ?restv6_2
                case hiv6_2 => simp only [List.getElem?_toArray, List.getElem?_cons_succ, List.getElem?_cons_zero, Option.some.injEq]; rfl
                case hqv6_2 => exact fun _ _ _ h => h
                case hyv6_2 =>
                 refine Or.inl ⟨by kernel_rfl, fun V hV => ?_⟩
                 clear hV
                 go_simp
                intro hCv6_2 hSv6_2
                clear hCv6_1 hSv6_1
                try simp only [Go.Act.put, List.setIfInBounds_toArray, List.set_cons_zero, List.set_cons_succ]
                refine wpAnyS_take (i := 2) (oi := ?oiv6_3) (v := .int .i64 oj) ?hiv6_3 (by kernel_rfl) (by kernel_rfl) (by kernel_rfl) (lateK_iff (by rfl)) ?hqv6_3 ?hyv6_3 hCv6_2 hSv6_2 ?restv6_3
                case hiv6_3 => simp only [List.getElem?_toArray, List.getElem?_cons_succ, List.getElem?_cons_zero, Option.some.injEq]; rfl
                case hqv6_3 => exact fun _ _ _ h => h
                case hyv6_3 =>
                 refine Or.inl ⟨by kernel_rfl, fun V hV => ?_⟩
                 clear hV
                 go_simp
                intro hCv6_3 hSv6_3
                clear hCv6_2 hSv6_2
                try simp only [Go.Act.put, List.setIfInBounds_toArray, List.set_cons_zero, List.set_cons_succ]
                refine wpAnyS_take (i := 3) (oi := ?oiv6_4) (v := .pointer (some ⟨bx, 0, none⟩)) ?hiv6_4 (by kernel_rfl) (by kernel_rfl) (by kernel_rfl) (lateK_iff (by rfl)) ?hqv6_4 ?hyv6_4 hCv6_3 hSv6_3 ?restv6_4
                case hiv6_4 => simp only [List.getElem?_toArray, List.getElem?_cons_succ, List.getElem?_cons_zero, Option.some.injEq]; rfl
                case hqv6_4 => exact fun _ _ _ h => h
                case hyv6_4 =>
                 refine Or.inl ⟨by kernel_rfl, fun V hV => ?_⟩
                 clear hV
                 go_simp
                intro hCv6_4 hSv6_4
                clear hCv6_3 hSv6_3
                try simp only [Go.Act.put, List.setIfInBounds_toArray, List.set_cons_zero, List.set_cons_succ]
                refine wpAnyS_take (i := 4) (oi := ?oiv6_5) (v := .int .i64 px) ?hiv6_5 (by kernel_rfl) (by kernel_rfl) (by kernel_rfl) (lateK_iff (by rfl)) ?hqv6_5 ?hyv6_5 hCv6_4 hSv6_4 ?restv6_5
                case hiv6_5 => simp only [List.getElem?_toArray, List.getElem?_cons_succ, List.getElem?_cons_zero, Option.some.injEq]; rfl
                case hqv6_5 => exact fun _ _ _ h => h
                case hyv6_5 =>
                 refine Or.inl ⟨by kernel_rfl, fun V hV => ?_⟩
                 have q0 := (lateK_g hV).1; clear hV
                 go_simp
                intro hCv6_5 hSv6_5
                clear hCv6_4 hSv6_4
                try simp only [Go.Act.put, List.setIfInBounds_toArray, List.set_cons_zero, List.set_cons_succ]
                refine wpAnyS_take (i := 5) (oi := ?oiv6_6) (v := .pointer (some ⟨wj.heap.size, 0, none⟩)) ?hiv6_6 (by kernel_rfl) (by kernel_rfl) (by kernel_rfl) (lateK_iff (by rfl)) ?hqv6_6 ?hyv6_6 hCv6_5 hSv6_5 ?restv6_6
                case hiv6_6 => simp only [List.getElem?_toArray, List.getElem?_cons_succ, List.getElem?_cons_zero, Option.some.injEq]; rfl
                case hqv6_6 => exact fun _ _ _ h => h
                case hyv6_6 =>
                 refine Or.inl ⟨by kernel_rfl, fun V hV => ?_⟩
                 clear hV
                 go_simp
                intro hCv6_6 hSv6_6
                clear hCv6_5 hSv6_5
                try simp only [Go.Act.put, List.setIfInBounds_toArray, List.set_cons_zero, List.set_cons_succ]
                refine wpAnyS_take (i := 6) (oi := ?oiv6_7) (v := .int .i64 qx) ?hiv6_7 (by kernel_rfl) (by kernel_rfl) (by kernel_rfl) (lateK_iff (by rfl)) ?hqv6_7 ?hyv6_7 hCv6_6 hSv6_6 ?restv6_7
                case hiv6_7 => simp only [List.getElem?_toArray, List.getElem?_cons_succ, List.getElem?_cons_zero, Option.some.injEq]; rfl
                case hqv6_7 => exact fun _ _ _ h => h
                case hyv6_7 =>
                 refine Or.inl ⟨by kernel_rfl, fun V hV => ?_⟩
                 have q0 := (lateK_g hV).2.2.1; clear hV
                 go_simp
                intro hCv6_7 hSv6_7
                clear hCv6_6 hSv6_6
                try simp only [Go.Act.put, List.setIfInBounds_toArray, List.set_cons_zero, List.set_cons_succ]
                refine wpAnyS_take (i := 7) (oi := ?oiv6_8) (v := .int .i64 dx) ?hiv6_8 (by kernel_rfl) (by kernel_rfl) (by kernel_rfl) (lateK_iff (by rfl)) ?hqv6_8 ?hyv6_8 hCv6_7 hSv6_7 ?restv6_8
                case hiv6_8 => simp only [List.getElem?_toArray, List.getElem?_cons_succ, List.getElem?_cons_zero, Option.some.injEq]; rfl
                case hqv6_8 => exact fun _ _ _ h => h
                case hyv6_8 =>
                 refine Or.inl ⟨by kernel_rfl, fun V hV => ?_⟩
                 clear hV
                 go_simp
                intro hCv6_8 hSv6_8
                clear hCv6_7 hSv6_7
                try simp only [Go.Act.put, List.setIfInBounds_toArray, List.set_cons_zero, List.set_cons_succ]
                refine wpAnyS_take (i := 9) (oi := ?oiv6_9) (v := .pointer (some ⟨bx, 1, none⟩)) ?hiv6_9 (by kernel_rfl) (by kernel_rfl) (by kernel_rfl) (lateK_iff (by rfl)) ?hqv6_9 ?hyv6_9 hCv6_8 hSv6_8 ?restv6_9
                case hiv6_9 => simp only [List.getElem?_toArray, List.getElem?_cons_succ, List.getElem?_cons_zero, Option.some.injEq]; rfl
                case hqv6_9 => exact fun _ _ _ h => h
                case hyv6_9 =>
                 refine Or.inl ⟨by kernel_rfl, fun V hV => ?_⟩
                 clear hV
                 go_simp
                intro hCv6_9 hSv6_9
                clear hCv6_8 hSv6_8
                try simp only [Go.Act.put, List.setIfInBounds_toArray, List.set_cons_zero, List.set_cons_succ]
                refine wpAnyS_take (i := 10) (oi := ?oiv6_10) (v := .int .i64 py) ?hiv6_10 (by kernel_rfl) (by kernel_rfl) (by kernel_rfl) (lateK_iff (by rfl)) ?hqv6_10 ?hyv6_10 hCv6_9 hSv6_9 ?restv6_10
                case hiv6_10 => simp only [List.getElem?_toArray, List.getElem?_cons_succ, List.getElem?_cons_zero, Option.some.injEq]; rfl
                case hqv6_10 => exact fun _ _ _ h => h
                case hyv6_10 =>
                 refine Or.inl ⟨by kernel_rfl, fun V hV => ?_⟩
                 have q0 := (lateK_g hV).2.1; clear hV
                 go_simp
                intro hCv6_10 hSv6_10
                clear hCv6_9 hSv6_9
                try simp only [Go.Act.put, List.setIfInBounds_toArray, List.set_cons_zero, List.set_cons_succ]
                refine wpAnyS_take (i := 11) (oi := ?oiv6_11) (v := .pointer (some ⟨wj.heap.size, 1, none⟩)) ?hiv6_11 (by kernel_rfl) (by kernel_rfl) (by kernel_rfl) (lateK_iff (by rfl)) ?hqv6_11 ?hyv6_11 hCv6_10 hSv6_10 ?restv6_11
                case hiv6_11 => simp only [List.getElem?_toArray, List.getElem?_cons_succ, List.getElem?_cons_zero, Option.some.injEq]; rfl
                case hqv6_11 => exact fun _ _ _ h => h
                case hyv6_11 =>
                 refine Or.inl ⟨by kernel_rfl, fun V hV => ?_⟩
                 clear hV
                 go_simp
                intro hCv6_11 hSv6_11
                clear hCv6_10 hSv6_10
                try simp only [Go.Act.put, List.setIfInBounds_toArray, List.set_cons_zero, List.set_cons_succ]
                refine wpAnyS_take (i := 12) (oi := ?oiv6_12) (v := .int .i64 qy) ?hiv6_12 (by kernel_rfl) (by kernel_rfl) (by kernel_rfl) (lateK_iff (by rfl)) ?hqv6_12 ?hyv6_12 hCv6_11 hSv6_11 ?restv6_12
                case hiv6_12 => simp only [List.getElem?_toArray, List.getElem?_cons_succ, List.getElem?_cons_zero, Option.some.injEq]; rfl
                case hqv6_12 => exact fun _ _ _ h => h
                case hyv6_12 =>
                 refine Or.inl ⟨by kernel_rfl, fun V hV => ?_⟩
                 have q0 := (lateK_g hV).2.2.2; clear hV
                 go_simp
                intro hCv6_12 hSv6_12
                clear hCv6_11 hSv6_11
                try simp only [Go.Act.put, List.setIfInBounds_toArray, List.set_cons_zero, List.set_cons_succ]
                refine wpAnyS_take (i := 13) (oi := ?oiv6_13) (v := .int .i64 dy) ?hiv6_13 (by kernel_rfl) (by kernel_rfl) (by kernel_rfl) (lateK_iff (by rfl)) ?hqv6_13 ?hyv6_13 hCv6_12 hSv6_12 ?restv6_13
                case hiv6_13 => simp only [List.getElem?_toArray, List.getElem?_cons_succ, List.getElem?_cons_zero, Option.some.injEq]; rfl
                case hqv6_13 => exact fun _ _ _ h => h
                case hyv6_13 =>
                 refine Or.inl ⟨by kernel_rfl, fun V hV => ?_⟩
                 clear hV
                 go_simp
                intro hCv6_13 hSv6_13
                clear hCv6_12 hSv6_12
                try simp only [Go.Act.put, List.setIfInBounds_toArray, List.set_cons_zero, List.set_cons_succ]
                refine wpAnyS_ready (rs := [8]) (by kernel_rfl) (by simp) ?_
                refine AllReadyS.cons rfl hCv6_13 (fun K hK => ?_) AllReadyS.nil
                go_simp
                refine (mrsquare_is dx DX.out.1 DX.out.2 _ HX).mono ?_; rintro e w1 ⟨rfl, rfl⟩
                refine hK.out _ _ hG0 (fun hCv6_14 hSv6_14 => ?_)
                clear hK hCv6_13 hSv6_13 K
                try simp only [Go.Act.put, List.setIfInBounds_toArray, List.set_cons_zero, List.set_cons_succ]
                refine wpAnyS_ready (rs := [14]) (by kernel_rfl) (by simp) ?_
                refine AllReadyS.cons rfl hCv6_14 (fun K hK => ?_) AllReadyS.nil
                go_simp
                refine (mrsquare_is dy DY.out.1 DY.out.2 _ HY).mono ?_; rintro e w1 ⟨rfl, rfl⟩
                refine hK.out _ _ hG0 (fun hCv6_15 hSv6_15 => ?_)
                clear hK hCv6_14 hSv6_14 K
                try simp only [Go.Act.put, List.setIfInBounds_toArray, List.set_cons_zero, List.set_cons_succ]
                refine wpAnyS_take (i := 15) (oi := ?oiv6_16) (v := .int .i64 n) ?hiv6_16 (by kernel_rfl) (by kernel_rfl) (by kernel_rfl) (lateK_iff (by rfl)) ?hqv6_16 ?hyv6_16 hCv6_15 hSv6_15 ?restv6_16
                case hiv6_16 => simp only [List.getElem?_toArray, List.getElem?_cons_succ, List.getElem?_cons_zero, Option.some.injEq]; rfl
                case hqv6_16 => exact fun _ _ _ h => h
                case hyv6_16 =>
                 refine Or.inl ⟨by kernel_rfl, fun V hV => ?_⟩
                 clear hV
                 go_simp
                intro hCv6_16 hSv6_16
                clear hCv6_15 hSv6_15
                try simp only [Go.Act.put, List.setIfInBounds_toArray, List.set_cons_zero, List.set_cons_succ]
                refine wpAnyS_take (i := 16) (oi := ?oiv6_17) (v := .int .i64 oj) ?hiv6_17 (by kernel_rfl) (by kernel_rfl) (by kernel_rfl) (lateK_iff (by rfl)) ?hqv6_17 ?hyv6_17 hCv6_16 hSv6_16 ?restv6_17
                case hiv6_17 => simp only [List.getElem?_toArray, List.getElem?_cons_succ, List.getElem?_cons_zero, Option.some.injEq]; rfl
                case hqv6_17 => exact fun _ _ _ h => h
                case hyv6_17 =>
                 refine Or.inl ⟨by kernel_rfl, fun V hV => ?_⟩
                 clear hV
                 go_simp
                intro hCv6_17 hSv6_17
                clear hCv6_16 hSv6_16
                try simp only [Go.Act.put, List.setIfInBounds_toArray, List.set_cons_zero, List.set_cons_succ]
                refine wpAnyS_take (i := 17) (oi := ?oiv6_18) (v := .pointer (some ⟨g1, j, none⟩)) ?hiv6_18 (by kernel_rfl) (by kernel_rfl) (by kernel_rfl) (lateK_iff (by rfl)) ?hqv6_18 ?hyv6_18 hCv6_17 hSv6_17 ?restv6_18
                case hiv6_18 => simp only [List.getElem?_toArray, List.getElem?_cons_succ, List.getElem?_cons_zero, Option.some.injEq]; rfl
                case hqv6_18 => exact fun _ _ _ h => h
                case hyv6_18 =>
                 refine Or.inl ⟨by kernel_rfl, fun V hV => ?_⟩
                 clear hV
                 go_simp
                intro hCv6_18 hSv6_18
                clear hCv6_17 hSv6_17
                try simp only [Go.Act.put, List.setIfInBounds_toArray, List.set_cons_zero, List.set_cons_succ]
                refine wpAnyS_ready (rs := [18]) (by kernel_rfl) (by simp) ?_
                refine AllReadyS.cons rfl hCv6_18 (fun K hK => ?_) AllReadyS.nil
                go_simp
                refine hK.out _ _ ⟨(World.cell?_setCell_other _ _ _ _ N4.out.1.symm).trans hG0.1, (World.cell?_setCell_other _ _ _ _ N4.out.2.1.symm).trans hG0.2.1, (World.cell?_setCell_other _ _ _ _ N4.out.2.2.1.symm).trans hG0.2.2.1, (World.cell?_setCell_other _ _ _ _ N4.out.2.2.2.symm).trans hG0.2.2.2⟩ (fun hCv6_19 hSv6_19 => ?_)
                clear hK hCv6_18 hSv6_18 K
                try simp only [Go.Act.put, List.setIfInBounds_toArray, List.set_cons_zero, List.set_cons_succ]
                refine wpAnyS_done (by kernel_rfl) ?_ _
                clear hCv6_19 hSv6_19
                have hd : frD (sqL a b) k j = oj := by
                 have hp := HPJ.out
                 have ho := HOJ.out
                 have hc := HC.out
                 unfold frO at ho hc
                 rw [HK0.out, HJ0.out] at *
                 rw [if_neg (by omega)] at ho
                 simp only [frD]
                 rw [Nat.add_sub_cancel] at ho
                 rw [ho, hp]
                 omega
                have HD2 := Lib.hid hd
                have HG4 := Lib.hid (mgrown_set GQ.out LG.out j (.int .i64 oj))
                have HR4 : Hid (RowAt (wq.setCell ⟨g1, j, none⟩ (.int .i64 oj)) g1 b.length (frM (sqL a b) k (j + 1))) := by
                 have q := HRQ.out.set j oj
                 have e := frM_set (sqL a b) k j
                 rw [HD2.out] at e
                 rw [e] at q; exact q
                have HB4 : Hid ((wq.setCell ⟨g1, j, none⟩ (.int .i64 oj)).heap[bx]? = some (.cells #[.int .i64 px, .int .i64 py] 64 (0, 0))) := by
                 show _ = _
                 rw [Below.heap_setCell _ _ _ _ (by show bx ≠ g1; exact fun e => NG.out e.symm)]; exact BXQ.out
                have HC4 : Hid (0 < j + 1 → oj = frO (sqL a b) k (j + 1 - 1)) := fun _ => by rw [Nat.add_sub_cancel]; exact HOJ.out.symm
                clear hd hG0 frq crq
                go_wp2_with fail
                go_roundw
                case rel => exact ⟨j + 1, oj, HJL.out, by go_num, rfl, HC4.out, HG4.out, HR4.out, HB4.out⟩
                case measure => have := HJL.out; simp [intOf]; omega
              ·
               have q1 : decide ((k : Int) = 0) = false := decide_eq_false (by omega)
               have q1b : ((k : Int) == 0) = false := beq_eq_false_iff_ne.2 (by omega)
               have p1 : decide ((j : Int) = 0) = false := decide_eq_false (by omega)
               have p1b : ((j : Int) == 0) = false := beq_eq_false_iff_ne.2 (by omega)
               have p2 : decide ((0 : Int) < (j : Int)) = true := decide_eq_true (by omega)
               have p2p : (0 : Int) < (j : Int) := by omega
               obtain ⟨k1, hk1⟩ : ∃ k1, k = k1 + 1 := ⟨k - 1, by omega⟩
               have HK0 := Lib.hid hk1
               clear hk1
               obtain ⟨j1, hj1⟩ : ∃ j1, j = j1 + 1 := ⟨j - 1, by omega⟩
               have em : (j : Int) - 1 = (j1 : Int) := by omega
               have rk : IntKind.i64.wrap (j1 : Int) = (j1 : Int) := IntWalk.i64_in _ (by omega)
               have j1l : (j1 : Int) < (b.length : Int) := by omega
               have j1n : j1 < b.length := by omega
               have HJ0 := Lib.hid hj1
               have cr := HR.out.cell (k := j1) j1n
               obtain ⟨dr, hdr⟩ : ∃ d, frD (sqL a b) k j1 = d := ⟨_, rfl⟩
               rw [show frM (sqL a b) k j j1 = dr from (if_pos (by omega)).trans hdr] at cr
               replace cr := grown_cell (World.grownBy_alloc wj (.cells #[.int .i64 qx, .int .i64 qy] 64) none) cr
               have HDR := Lib.hid hdr
               clear hj1 hdr
               clear kz jz
               rcases (by omega : dr < oj ∨ ¬ dr < oj) with c1 | c1
               ·
                rcases (by omega : c < dr ∨ ¬ c < dr) with c2 | c2
                ·
                 rcases (by omega : c < n ∨ ¬ c < n) with hm | hm
                 ·
                  go_upto_region 33 with (fail)
                  have bq : (wj.alloc (.cells #[.int .i64 qx, .int .i64 qy] 64)).drew.heap[wj.heap.size]? = some (.cells #[.int .i64 qx, .int .i64 qy] 64 (0, 0)) := mheap_new wj _
                  have gq : wj.grownBy (wj.alloc (.cells #[.int .i64 qx, .int .i64 qy] 64)).drew none := grown_trans (World.grownBy_alloc _ _ _) (grown_drewN _ _ 1)
                  have bxq := mblock_at HBX.out gq (by simp)
                  have HRQ := Lib.hid (HR.out.grown gq)
                  have frq := HRQ.out.free j
                  have crq := HRQ.out.cell (k := j) HJL.out
                  have NJ : Hid (g1 ≠ wj.heap.size) := fun e => by have := lt_of_block (show wj.heap[g1]? = _ from HR.out); omega
                  have hG0 : (fun V => V.cell? ⟨bx, 0, none⟩ = some (.int .i64 px) ∧ V.cell? ⟨bx, 1, none⟩ = some (.int .i64 py) ∧ V.cell? ⟨wj.heap.size, 0, none⟩ = some (.int .i64 qx) ∧ V.cell? ⟨wj.heap.size, 1, none⟩ = some (.int .i64 qy)) (wj.alloc (.cells #[.int .i64 qx, .int .i64 qy] 64)).drew := ⟨mblock_cell bxq 0 _ rfl, mblock_cell bxq 1 _ rfl, mblock_cell bq 0 _ rfl, mblock_cell bq 1 _ rfl⟩
                  have BXQ := Lib.hid bxq
                  have GQ := Lib.hid (grown_trans HGJ.out gq)
                  clear xb0 xb1 cr0 cr bq bxq y0 y1 gq
                  have n1 : (⟨bx, 0, none⟩ : Addr) ≠ ⟨g1, j, none⟩ := fun e => NG.out (congrArg Addr.block e).symm
                  have n2 : (⟨bx, 1, none⟩ : Addr) ≠ ⟨g1, j, none⟩ := fun e => NG.out (congrArg Addr.block e).symm
                  have n3 : (⟨wj.heap.size, 0, none⟩ : Addr) ≠ ⟨g1, j, none⟩ := fun e => NJ.out (congrArg Addr.block e).symm
                  have n4 : (⟨wj.heap.size, 1, none⟩ : Addr) ≠ ⟨g1, j, none⟩ := fun e => NJ.out (congrArg Addr.block e).symm
                  have N4 := Lib.hid (And.intro n1 (And.intro n2 (And.intro n3 n4)))
                  clear n1 n2 n3 n4
                  refine region_late (lateK (fun V => V.cell? ⟨bx, 0, none⟩ = some (.int .i64 px) ∧ V.cell? ⟨bx, 1, none⟩ = some (.int .i64 py) ∧ V.cell? ⟨wj.heap.size, 0, none⟩ = some (.int .i64 qx) ∧ V.cell? ⟨wj.heap.size, 1, none⟩ = some (.int .i64 qy)) []) (by kernel_rfl) hG0 (fun hCv7_0 hSv7_0 => ?_)
                  generalize (wj.alloc (.cells #[.int .i64 qx, .int .i64 qy] 64)).drew = wq at *
                  refine wpAnyS_take (i := 0) (oi := ?oiv7_1) (v := .slice (some ⟨g1, 0, none⟩) b.length b.length) ?hiv7_1 (by kernel_rfl) (by kernel_rfl) (by kernel_rfl) (lateK_iff (by rfl)) ?hqv7_1 ?hyv7_1 hCv7_0 hSv7_0 ?restv7_1
                  case hiv7_1 => simp only [List.getElem?_toArray, List.getElem?_cons_succ, List.getElem?_cons_zero, Option.some.injEq]; rfl
                  case hqv7_1 => exact fun _ _ _ h => h
                  case hyv7_1 =>
                   refine Or.inl ⟨by kernel_rfl, fun V hV => ?_⟩
                   clear hV
                   go_simp
                  intro hCv7_1 hSv7_1
                  clear hCv7_0 hSv7_0
                  try simp only [Go.Act.put, List.setIfInBounds_toArray, List.set_cons_zero, List.set_cons_succ]
                  refine wpAnyS_take (i := 1) (oi := ?oiv7_2) (v := .int .i64 (j : Int)) ?hiv7_2 (by kernel_rfl) (by kernel_rfl) (by kernel_rfl) (lateK_iff (by rfl)) ?hqv7_2 ?hyv7_2 hCv7_1 hSv7_1 ?restv7_2
                  case hiv7_2 => simp only [List.getElem?_toArray, List.getElem?_cons_succ, List.getElem?_cons_zero, Option.some.injEq]; rfl
                  case hqv7_2 => exact fun _ _ _ h => h
                  case hyv7_2 =>
                   refine Or.inl ⟨by kernel_rfl, fun V hV => ?_⟩
                   clear hV
                   go_simp
                  intro hCv7_2 hSv7_2
                  clear hCv7_1 hSv7_1
                  try simp only [Go.Act.put, List.setIfInBounds_toArray, List.set_cons_zero, List.set_cons_succ]
                  refine wpAnyS_take (i := 2) (oi := ?oiv7_3) (v := .int .i64 c) ?hiv7_3 (by kernel_rfl) (by kernel_rfl) (by kernel_rfl) (lateK_iff (by rfl)) ?hqv7_3 ?hyv7_3 hCv7_2 hSv7_2 ?restv7_3
                  case hiv7_3 => simp only [List.getElem?_toArray, List.getElem?_cons_succ, List.getElem?_cons_zero, Option.some.injEq]; rfl
                  case hqv7_3 => exact fun _ _ _ h => h
                  case hyv7_3 =>
                   refine Or.inl ⟨by kernel_rfl, fun V hV => ?_⟩
                   clear hV
                   go_simp
                  intro hCv7_3 hSv7_3
                  clear hCv7_2 hSv7_2
                  try simp only [Go.Act.put, List.setIfInBounds_toArray, List.set_cons_zero, List.set_cons_succ]
                  refine wpAnyS_take (i := 3) (oi := ?oiv7_4) (v := .pointer (some ⟨bx, 0, none⟩)) ?hiv7_4 (by kernel_rfl) (by kernel_rfl) (by kernel_rfl) (lateK_iff (by rfl)) ?hqv7_4 ?hyv7_4 hCv7_3 hSv7_3 ?restv7_4
                  case hiv7_4 => simp only [List.getElem?_toArray, List.getElem?_cons_succ, List.getElem?_cons_zero, Option.some.injEq]; rfl
                  case hqv7_4 => exact fun _ _ _ h => h
                  case hyv7_4 =>
                   refine Or.inl ⟨by kernel_rfl, fun V hV => ?_⟩
                   clear hV
                   go_simp
                  intro hCv7_4 hSv7_4
                  clear hCv7_3 hSv7_3
                  try simp only [Go.Act.put, List.setIfInBounds_toArray, List.set_cons_zero, List.set_cons_succ]
                  refine wpAnyS_take (i := 4) (oi := ?oiv7_5) (v := .int .i64 px) ?hiv7_5 (by kernel_rfl) (by kernel_rfl) (by kernel_rfl) (lateK_iff (by rfl)) ?hqv7_5 ?hyv7_5 hCv7_4 hSv7_4 ?restv7_5
                  case hiv7_5 => simp only [List.getElem?_toArray, List.getElem?_cons_succ, List.getElem?_cons_zero, Option.some.injEq]; rfl
                  case hqv7_5 => exact fun _ _ _ h => h
                  case hyv7_5 =>
                   refine Or.inl ⟨by kernel_rfl, fun V hV => ?_⟩
                   have q0 := (lateK_g hV).1; clear hV
                   go_simp
                  intro hCv7_5 hSv7_5
                  clear hCv7_4 hSv7_4
                  try simp only [Go.Act.put, List.setIfInBounds_toArray, List.set_cons_zero, List.set_cons_succ]
                  refine wpAnyS_take (i := 5) (oi := ?oiv7_6) (v := .pointer (some ⟨wj.heap.size, 0, none⟩)) ?hiv7_6 (by kernel_rfl) (by kernel_rfl) (by kernel_rfl) (lateK_iff (by rfl)) ?hqv7_6 ?hyv7_6 hCv7_5 hSv7_5 ?restv7_6
                  case hiv7_6 => simp only [List.getElem?_toArray, List.getElem?_cons_succ, List.getElem?_cons_zero, Option.some.injEq]; rfl
                  case hqv7_6 => exact fun _ _ _ h => h
                  case hyv7_6 =>
                   refine Or.inl ⟨by kernel_rfl, fun V hV => ?_⟩
                   clear hV
                   go_simp
                  intro hCv7_6 hSv7_6
                  clear hCv7_5 hSv7_5
                  try simp only [Go.Act.put, List.setIfInBounds_toArray, List.set_cons_zero, List.set_cons_succ]
                  refine wpAnyS_take (i := 6) (oi := ?oiv7_7) (v := .int .i64 qx) ?hiv7_7 (by kernel_rfl) (by kernel_rfl) (by kernel_rfl) (lateK_iff (by rfl)) ?hqv7_7 ?hyv7_7 hCv7_6 hSv7_6 ?restv7_7
                  case hiv7_7 => simp only [List.getElem?_toArray, List.getElem?_cons_succ, List.getElem?_cons_zero, Option.some.injEq]; rfl
                  case hqv7_7 => exact fun _ _ _ h => h
                  case hyv7_7 =>
                   refine Or.inl ⟨by kernel_rfl, fun V hV => ?_⟩
                   have q0 := (lateK_g hV).2.2.1; clear hV
                   go_simp
                  intro hCv7_7 hSv7_7
                  clear hCv7_6 hSv7_6
                  try simp only [Go.Act.put, List.setIfInBounds_toArray, List.set_cons_zero, List.set_cons_succ]
                  refine wpAnyS_take (i := 7) (oi := ?oiv7_8) (v := .int .i64 dx) ?hiv7_8 (by kernel_rfl) (by kernel_rfl) (by kernel_rfl) (lateK_iff (by rfl)) ?hqv7_8 ?hyv7_8 hCv7_7 hSv7_7 ?restv7_8
                  case hiv7_8 => simp only [List.getElem?_toArray, List.getElem?_cons_succ, List.getElem?_cons_zero, Option.some.injEq]; rfl
                  case hqv7_8 => exact fun _ _ _ h => h
                  case hyv7_8 =>
                   refine Or.inl ⟨by kernel_rfl, fun V hV => ?_⟩
                   clear hV
                   go_simp
                  intro hCv7_8 hSv7_8
                  clear hCv7_7 hSv7_7
                  try simp only [Go.Act.put, List.setIfInBounds_toArray, List.set_cons_zero, List.set_cons_succ]
                  refine wpAnyS_take (i := 9) (oi := ?oiv7_9) (v := .pointer (some ⟨bx, 1, none⟩)) ?hiv7_9 (by kernel_rfl) (by kernel_rfl) (by kernel_rfl) (lateK_iff (by rfl)) ?hqv7_9 ?hyv7_9 hCv7_8 hSv7_8 ?restv7_9
                  case hiv7_9 => simp only [List.getElem?_toArray, List.getElem?_cons_succ, List.getElem?_cons_zero, Option.some.injEq]; rfl
                  case hqv7_9 => exact fun _ _ _ h => h
                  case hyv7_9 =>
                   refine Or.inl ⟨by kernel_rfl, fun V hV => ?_⟩
                   clear hV
                   go_simp
                  intro hCv7_9 hSv7_9
                  clear hCv7_8 hSv7_8
                  try simp only [Go.Act.put, List.setIfInBounds_toArray, List.set_cons_zero, List.set_cons_succ]
                  refine wpAnyS_take (i := 10) (oi := ?oiv7_10) (v := .int .i64 py) ?hiv7_10 (by kernel_rfl) (by kernel_rfl) (by kernel_rfl) (lateK_iff (by rfl)) ?hqv7_10 ?hyv7_10 hCv7_9 hSv7_9 ?restv7_10
                  case hiv7_10 => simp only [List.getElem?_toArray, List.getElem?_cons_succ, List.getElem?_cons_zero, Option.some.injEq]; rfl
                  case hqv7_10 => exact fun _ _ _ h => h
                  case hyv7_10 =>
                   refine Or.inl ⟨by kernel_rfl, fun V hV => ?_⟩
                   have q0 := (lateK_g hV).2.1; clear hV
                   go_simp
                  intro hCv7_10 hSv7_10
                  clear hCv7_9 hSv7_9
                  try simp only [Go.Act.put, List.setIfInBounds_toArray, List.set_cons_zero, List.set_cons_succ]
                  refine wpAnyS_take (i := 11) (oi := ?oiv7_11) (v := .pointer (some ⟨wj.heap.size, 1, none⟩)) ?hiv7_11 (by kernel_rfl) (by kernel_rfl) (by kernel_rfl) (lateK_iff (by rfl)) ?hqv7_11 ?hyv7_11 hCv7_10 hSv7_10 ?restv7_11
                  case hiv7_11 => simp only [List.getElem?_toArray, List.getElem?_cons_succ, List.getElem?_cons_zero, Option.some.injEq]; rfl
                  case hqv7_11 => exact fun _ _ _ h => h
                  case hyv7_11 =>
                   refine Or.inl ⟨by kernel_rfl, fun V hV => ?_⟩
                   clear hV
                   go_simp
                  intro hCv7_11 hSv7_11
                  clear hCv7_10 hSv7_10
                  try simp only [Go.Act.put, List.setIfInBounds_toArray, List.set_cons_zero, List.set_cons_succ]
                  refine wpAnyS_take (i := 12) (oi := ?oiv7_12) (v := .int .i64 qy) ?hiv7_12 (by kernel_rfl) (by kernel_rfl) (by kernel_rfl) (lateK_iff (by rfl)) ?hqv7_12 ?hyv7_12 hCv7_11 hSv7_11 ?restv7_12
                  case hiv7_12 => simp only [List.getElem?_toArray, List.getElem?_cons_succ, List.getElem?_cons_zero, Option.some.injEq]; rfl
                  case hqv7_12 => exact fun _ _ _ h => h
                  case hyv7_12 =>
                   refine Or.inl ⟨by kernel_rfl, fun V hV => ?_⟩
                   have q0 := (lateK_g hV).2.2.2; clear hV
                   go_simp
                  intro hCv7_12 hSv7_12
                  clear hCv7_11 hSv7_11
                  try simp only [Go.Act.put, List.setIfInBounds_toArray, List.set_cons_zero, List.set_cons_succ]
                  refine wpAnyS_take (i := 13) (oi := ?oiv7_13) (v := .int .i64 dy) ?hiv7_13 (by kernel_rfl) (by kernel_rfl) (by kernel_rfl) (lateK_iff (by rfl)) ?hqv7_13 ?hyv7_13 hCv7_12 hSv7_12 ?restv7_13
                  case hiv7_13 => simp only [List.getElem?_toArray, List.getElem?_cons_succ, List.getElem?_cons_zero, Option.some.injEq]; rfl
                  case hqv7_13 => exact fun _ _ _ h => h
                  case hyv7_13 =>
                   refine Or.inl ⟨by kernel_rfl, fun V hV => ?_⟩
                   clear hV
                   go_simp
                  intro hCv7_13 hSv7_13
                  clear hCv7_12 hSv7_12
                  try simp only [Go.Act.put, List.setIfInBounds_toArray, List.set_cons_zero, List.set_cons_succ]
                  refine wpAnyS_ready (rs := [8]) (by kernel_rfl) (by simp) ?_
                  refine AllReadyS.cons rfl hCv7_13 (fun K hK => ?_) AllReadyS.nil
                  go_simp
                  refine (mrsquare_is dx DX.out.1 DX.out.2 _ HX).mono ?_; rintro e w1 ⟨rfl, rfl⟩
                  refine hK.out _ _ hG0 (fun hCv7_14 hSv7_14 => ?_)
                  clear hK hCv7_13 hSv7_13 K
                  try simp only [Go.Act.put, List.setIfInBounds_toArray, List.set_cons_zero, List.set_cons_succ]
                  refine wpAnyS_ready (rs := [14]) (by kernel_rfl) (by simp) ?_
                  refine AllReadyS.cons rfl hCv7_14 (fun K hK => ?_) AllReadyS.nil
                  go_simp
                  refine (mrsquare_is dy DY.out.1 DY.out.2 _ HY).mono ?_; rintro e w1 ⟨rfl, rfl⟩
                  refine hK.out _ _ hG0 (fun hCv7_15 hSv7_15 => ?_)
                  clear hK hCv7_14 hSv7_14 K
                  try simp only [Go.Act.put, List.setIfInBounds_toArray, List.set_cons_zero, List.set_cons_succ]
                  refine wpAnyS_take (i := 15) (oi := ?oiv7_16) (v := .int .i64 n) ?hiv7_16 (by kernel_rfl) (by kernel_rfl) (by kernel_rfl) (lateK_iff (by rfl)) ?hqv7_16 ?hyv7_16 hCv7_15 hSv7_15 ?restv7_16
                  case hiv7_16 => simp only [List.getElem?_toArray, List.getElem?_cons_succ, List.getElem?_cons_zero, Option.some.injEq]; rfl
                  case hqv7_16 => exact fun _ _ _ h => h
                  case hyv7_16 =>
                   refine Or.inl ⟨by kernel_rfl, fun V hV => ?_⟩
                   clear hV
                   go_simp
                  intro hCv7_16 hSv7_16
                  clear hCv7_15 hSv7_15
                  try simp only [Go.Act.put, List.setIfInBounds_toArray, List.set_cons_zero, List.set_cons_succ]
                  refine wpAnyS_take (i := 16) (oi := ?oiv7_17) (v := .int .i64 n) ?hiv7_17 (by kernel_rfl) (by kernel_rfl) (by kernel_rfl) (lateK_iff (by rfl)) ?hqv7_17 ?hyv7_17 hCv7_16 hSv7_16 ?restv7_17
                  case hiv7_17 => simp only [List.getElem?_toArray, List.getElem?_cons_succ, List.getElem?_cons_zero, Option.some.injEq]; rfl
                  case hqv7_17 => exact fun _ _ _ h => h
                  case hyv7_17 =>
                   refine Or.inl ⟨by kernel_rfl, fun V hV => ?_⟩
                   clear hV
                   go_simp
                  intro hCv7_17 hSv7_17
                  clear hCv7_16 hSv7_16
                  try simp only [Go.Act.put, List.setIfInBounds_toArray, List.set_cons_zero, List.set_cons_succ]
                  refine wpAnyS_take (i := 17) (oi := ?oiv7_18) (v := .pointer (some ⟨g1, j, none⟩)) ?hiv7_18 (by kernel_rfl) (by kernel_rfl) (by kernel_rfl) (lateK_iff (by rfl)) ?hqv7_18 ?hyv7_18 hCv7_17 hSv7_17 ?restv7_18
                  case hiv7_18 => simp only [List.getElem?_toArray, List.getElem?_cons_succ, List.getElem?_cons_zero, Option.some.injEq]; rfl
                  case hqv7_18 => exact fun _ _ _ h => h
                  case hyv7_18 =>
                   refine Or.inl ⟨by kernel_rfl, fun V hV => ?_⟩
                   clear hV
                   go_simp
                  intro hCv7_18 hSv7_18
                  clear hCv7_17 hSv7_17
                  try simp only [Go.Act.put, List.setIfInBounds_toArray, List.set_cons_zero, List.set_cons_succ]
                  refine wpAnyS_ready (rs := [18]) (by kernel_rfl) (by simp) ?_
                  refine AllReadyS.cons rfl hCv7_18 (fun K hK => ?_) AllReadyS.nil
                  go_simp
                  refine hK.out _ _ ⟨(World.cell?_setCell_other _ _ _ _ N4.out.1.symm).trans hG0.1, (World.cell?_setCell_other _ _ _ _ N4.out.2.1.symm).trans hG0.2.1, (World.cell?_setCell_other _ _ _ _ N4.out.2.2.1.symm).trans hG0.2.2.1, (World.cell?_setCell_other _ _ _ _ N4.out.2.2.2.symm).trans hG0.2.2.2⟩ (fun hCv7_19 hSv7_19 => ?_)
                  clear hK hCv7_18 hSv7_18 K
                  try simp only [Go.Act.put, List.setIfInBounds_toArray, List.set_cons_zero, List.set_cons_succ]
                  refine wpAnyS_done (by kernel_rfl) ?_ _
                  clear hCv7_19 hSv7_19
                  have hd : frD (sqL a b) k j = n := by
                   have hp := HPJ.out
                   have ho := HOJ.out
                   have hc := HC.out
                   have hr := HDR.out
                   unfold frO at ho hc
                   have hc2 := hc (by omega)
                   rw [HK0.out] at *
                   rw [HJ0.out] at *
                   rw [if_neg (by omega), Nat.add_sub_cancel] at ho
                   rw [if_neg (by omega), Nat.add_sub_cancel, Nat.add_sub_cancel] at hc2
                   simp only [frD, mn3]
                   rw [hr, hp, ho, ← hc2]
                   omega
                  have HD2 := Lib.hid hd
                  have HG4 := Lib.hid (mgrown_set GQ.out LG.out j (.int .i64 n))
                  have HR4 : Hid (RowAt (wq.setCell ⟨g1, j, none⟩ (.int .i64 n)) g1 b.length (frM (sqL a b) k (j + 1))) := by
                   have q := HRQ.out.set j n
                   have e := frM_set (sqL a b) k j
                   rw [HD2.out] at e
                   rw [e] at q; exact q
                  have HB4 : Hid ((wq.setCell ⟨g1, j, none⟩ (.int .i64 n)).heap[bx]? = some (.cells #[.int .i64 px, .int .i64 py] 64 (0, 0))) := by
                   show _ = _
                   rw [Below.heap_setCell _ _ _ _ (by show bx ≠ g1; exact fun e => NG.out e.symm)]; exact BXQ.out
                  have HC4 : Hid (0 < j + 1 → oj = frO (sqL a b) k (j + 1 - 1)) := fun _ => by rw [Nat.add_sub_cancel]; exact HOJ.out.symm
                  clear hd hG0 frq crq
                  go_wp2_with fail
                  go_roundw
                  case rel => exact ⟨j + 1, oj, HJL.out, by go_num, rfl, HC4.out, HG4.out, HR4.out, HB4.out⟩
                  case measure => have := HJL.out; simp [intOf]; omega
                 ·
                  go_upto_region 33 with (fail)
                  have bq : (wj.alloc (.cells #[.int .i64 qx, .int .i64 qy] 64)).drew.heap[wj.heap.size]? = some (.cells #[.int .i64 qx, .int .i64 qy] 64 (0, 0)) := mheap_new wj _
                  have gq : wj.grownBy (wj.alloc (.cells #[.int .i64 qx, .int .i64 qy] 64)).drew none := grown_trans (World.grownBy_alloc _ _ _) (grown_drewN _ _ 1)
                  have bxq := mblock_at HBX.out gq (by simp)
                  have HRQ := Lib.hid (HR.out.grown gq)
                  have frq := HRQ.out.free j
                  have crq := HRQ.out.cell (k := j) HJL.out
                  have NJ : Hid (g1 ≠ wj.heap.size) := fun e => by have := lt_of_block (show wj.heap[g1]? = _ from HR.out); omega
                  have hG0 : (fun V => V.cell? ⟨bx, 0, none⟩ = some (.int .i64 px) ∧ V.cell? ⟨bx, 1, none⟩ = some (.int .i64 py) ∧ V.cell? ⟨wj.heap.size, 0, none⟩ = some (.int .i64 qx) ∧ V.cell? ⟨wj.heap.size, 1, none⟩ = some (.int .i64 qy)) (wj.alloc (.cells #[.int .i64 qx, .int .i64 qy] 64)).drew := ⟨mblock_cell bxq 0 _ rfl, mblock_cell bxq 1 _ rfl, mblock_cell bq 0 _ rfl, mblock_cell bq 1 _ rfl⟩
                  have BXQ := Lib.hid bxq
                  have GQ := Lib.hid (grown_trans HGJ.out gq)
                  clear xb0 xb1 cr0 cr bq bxq y0 y1 gq
                  have n1 : (⟨bx, 0, none⟩ : Addr) ≠ ⟨g1, j, none⟩ := fun e => NG.out (congrArg Addr.block e).symm
                  have n2 : (⟨bx, 1, none⟩ : Addr) ≠ ⟨g1, j, none⟩ := fun e => NG.out (congrArg Addr.block e).symm
                  have n3 : (⟨wj.heap.size, 0, none⟩ : Addr) ≠ ⟨g1, j, none⟩ := fun e => NJ.out (congrArg Addr.block e).symm
                  have n4 : (⟨wj.heap.size, 1, none⟩ : Addr) ≠ ⟨g1, j, none⟩ := fun e => NJ.out (congrArg Addr.block e).symm
                  have N4 := Lib.hid (And.intro n1 (And.intro n2 (And.intro n3 n4)))
                  clear n1 n2 n3 n4
                  refine region_late (lateK (fun V => V.cell? ⟨bx, 0, none⟩ = some (.int .i64 px) ∧ V.cell? ⟨bx, 1, none⟩ = some (.int .i64 py) ∧ V.cell? ⟨wj.heap.size, 0, none⟩ = some (.int .i64 qx) ∧ V.cell? ⟨wj.heap.size, 1, none⟩ = some (.int .i64 qy)) []) (by kernel_rfl) hG0 (fun hCv8_0 hSv8_0 => ?_)
                  generalize (wj.alloc (.cells #[.int .i64 qx, .int .i64 qy] 64)).drew = wq at *
                  refine wpAnyS_take (i := 0) (oi := ?oiv8_1) (v := .slice (some ⟨g1, 0, none⟩) b.length b.length) ?hiv8_1 (by kernel_rfl) (by kernel_rfl) (by kernel_rfl) (lateK_iff (by rfl)) ?hqv8_1 ?hyv8_1 hCv8_0 hSv8_0 ?restv8_1
                  case hiv8_1 => simp only [List.getElem?_toArray, List.getElem?_cons_succ, List.getElem?_cons_zero, Option.some.injEq]; rfl
                  case hqv8_1 => exact fun _ _ _ h => h
                  case hyv8_1 =>
                   refine Or.inl ⟨by kernel_rfl, fun V hV => ?_⟩
                   clear hV
                   go_simp
                  intro hCv8_1 hSv8_1
                  clear hCv8_0 hSv8_0
                  try simp only [Go.Act.put, List.setIfInBounds_toArray, List.set_cons_zero, List.set_cons_succ]
                  refine wpAnyS_take (i := 1) (oi := ?oiv8_2) (v := .int .i64 (j : Int)) ?hiv8_2 (by kernel_rfl) (by kernel_rfl) (by kernel_rfl) (lateK_iff (by rfl)) ?hqv8_2 ?hyv8_2 hCv8_1 hSv8_1 ?restv8_2
                  case hiv8_2 => simp only [List.getElem?_toArray, List.getElem?_cons_succ, List.getElem?_cons_zero, Option.some.injEq]; rfl
                  case hqv8_2 => exact fun _ _ _ h => h
                  case hyv8_2 =>
                   refine Or.inl ⟨by kernel_rfl, fun V hV => ?_⟩
                   clear hV
                   go_simp
                  intro hCv8_2 hSv8_2
                  clear hCv8_1 hSv8_1
                  try simp only [Go.Act.put, List.setIfInBounds_toArray, List.set_cons_zero, List.set_cons_succ]
                  refine wpAnyS_take (i := 2) (oi := ?oiv8_3) (v := .int .i64 c) ?hiv8_3 (by kernel_rfl) (by kernel_rfl) (by kernel_rfl) (lateK_iff (by rfl)) ?hqv8_3 ?hyv8_3 hCv8_2 hSv8_2 ?restv8_3
                  case hiv8_3 => simp only [List.getElem?_toArray, List.getElem?_cons_succ, List.getElem?_cons_zero, Option.some.injEq]; rfl
                  case hqv8_3 => exact fun _ _ _ h => h
                  case hyv8_3 =>
                   refine Or.inl ⟨by kernel_rfl, fun V hV => ?_⟩
                   clear hV
                   go_simp
                  intro hCv8_3 hSv8_3
                  clear hCv8_2 hSv8_2
                  try simp only [Go.Act.put, List.setIfInBounds_toArray, List.set_cons_zero, List.set_cons_succ]
                  refine wpAnyS_take (i := 3) (oi := ?oiv8_4) (v := .pointer (some ⟨bx, 0, none⟩)) ?hiv8_4 (by kernel_rfl) (by kernel_rfl) (by kernel_rfl) (lateK_iff (by rfl)) ?hqv8_4 ?hyv8_4 hCv8_3 hSv8_3 ?restv8_4
                  case hiv8_4 => simp only [List.getElem?_toArray, List.getElem?_cons_succ, List.getElem?_cons_zero, Option.some.injEq]; rfl
                  case hqv8_4 => exact fun _ _ _ h => h
                  case hyv8_4 =>
                   refine Or.inl ⟨by kernel_rfl, fun V hV => ?_⟩
                   clear hV
                   go_simp
                  intro hCv8_4 hSv8_4
                  clear hCv8_3 hSv8_3
                  try simp only [Go.Act.put, List.setIfInBounds_toArray, List.set_cons_zero, List.set_cons_succ]
                  refine wpAnyS_take (i := 4) (oi := ?oiv8_5) (v := .int .i64 px) ?hiv8_5 (by kernel_rfl) (by kernel_rfl) (by kernel_rfl) (lateK_iff (by rfl)) ?hqv8_5 ?hyv8_5 hCv8_4 hSv8_4 ?restv8_5
                  case hiv8_5 => simp only [List.getElem?_toArray, List.getElem?_cons_succ, List.getElem?_cons_zero, Option.some.injEq]; rfl
                  case hqv8_5 => exact fun _ _ _ h => h
                  case hyv8_5 =>
                   refine Or.inl ⟨by kernel_rfl, fun V hV => ?_⟩
                   have q0 := (lateK_g hV).1; clear hV
                   go_simp
                  intro hCv8_5 hSv8_5
                  clear hCv8_4 hSv8_4
                  try simp only [Go.Act.put, List.setIfInBounds_toArray, List.set_cons_zero, List.set_cons_succ]
                  refine wpAnyS_take (i := 5) (oi := ?oiv8_6) (v := .pointer (some ⟨wj.heap.size, 0, none⟩)) ?hiv8_6 (by kernel_rfl) (by kernel_rfl) (by kernel_rfl) (lateK_iff (by rfl)) ?hqv8_6 ?hyv8_6 hCv8_5 hSv8_5 ?restv8_6
                  case hiv8_6 => simp only [List.getElem?_toArray, List.getElem?_cons_succ, List.getElem?_cons_zero, Option.some.injEq]; rfl
                  case hqv8_6 => exact fun _ _ _ h => h
                  case hyv8_6 =>
                   refine Or.inl ⟨by kernel_rfl, fun V hV => ?_⟩
                   clear hV
                   go_simp
                  intro hCv8_6 hSv8_6
                  clear hCv8_5 hSv8_5
                  try simp only [Go.Act.put, List.setIfInBounds_toArray, List.set_cons_zero, List.set_cons_succ]
                  refine wpAnyS_take (i := 6) (oi := ?oiv8_7) (v := .int .i64 qx) ?hiv8_7 (by kernel_rfl) (by kernel_rfl) (by kernel_rfl) (lateK_iff (by rfl)) ?hqv8_7 ?hyv8_7 hCv8_6 hSv8_6 ?restv8_7
                  case hiv8_7 => simp only [List.getElem?_toArray, List.getElem?_cons_succ, List.getElem?_cons_zero, Option.some.injEq]; rfl
                  case hqv8_7 => exact fun _ _ _ h => h
                  case hyv8_7 =>
                   refine Or.inl ⟨by kernel_rfl, fun V hV => ?_⟩
                   have q0 := (lateK_g hV).2.2.1; clear hV
                   go_simp
                  intro hCv8_7 hSv8_7
                  clear hCv8_6 hSv8_6
                  try simp only [Go.Act.put, List.setIfInBounds_toArray, List.set_cons_zero, List.set_cons_succ]
                  refine wpAnyS_take (i := 7) (oi := ?oiv8_8) (v := .int .i64 dx) ?hiv8_8 (by kernel_rfl) (by kernel_rfl) (by kernel_rfl) (lateK_iff (by rfl)) ?hqv8_8 ?hyv8_8 hCv8_7 hSv8_7 ?restv8_8
                  case hiv8_8 => simp only [List.getElem?_toArray, List.getElem?_cons_succ, List.getElem?_cons_zero, Option.some.injEq]; rfl
                  case hqv8_8 => exact fun _ _ _ h => h
                  case hyv8_8 =>
                   refine Or.inl ⟨by kernel_rfl, fun V hV => ?_⟩
                   clear hV
                   go_simp
                  intro hCv8_8 hSv8_8
                  clear hCv8_7 hSv8_7
                  try simp only [Go.Act.put, List.setIfInBounds_toArray, List.set_cons_zero, List.set_cons_succ]
                  refine wpAnyS_take (i := 9) (oi := ?oiv8_9) (v := .pointer (some ⟨bx, 1, none⟩)) ?hiv8_9 (by kernel_rfl) (by kernel_rfl) (by kernel_rfl) (lateK_iff (by rfl)) ?hqv8_9 ?hyv8_9 hCv8_8 hSv8_8 ?restv8_9
                  case hiv8_9 => simp only [List.getElem?_toArray, List.getElem?_cons_succ, List.getElem?_cons_zero, Option.some.injEq]; rfl
                  case hqv8_9 => exact fun _ _ _ h => h
                  case hyv8_9 =>
                   refine Or.inl ⟨by kernel_rfl, fun V hV => ?_⟩
                   clear hV
                   go_simp
                  intro hCv8_9 hSv8_9
                  clear hCv8_8 hSv8_8
                  try simp only [Go.Act.put, List.setIfInBounds_toArray, List.set_cons_zero, List.set_cons_succ]
                  refine wpAnyS_take (i := 10) (oi := ?oiv8_10) (v := .int .i64 py) ?hiv8_10 (by kernel_rfl) (by kernel_rfl) (by kernel_rfl) (lateK_iff (by rfl)) ?hqv8_10 ?hyv8_10 hCv8_9 hSv8_9 ?restv8_10
                  case hiv8_10 => simp only [List.getElem?_toArray, List.getElem?_cons_succ, List.getElem?_cons_zero, Option.some.injEq]; rfl
                  case hqv8_10 => exact fun _ _ _ h => h
                  case hyv8_10 =>
                   refine Or.inl ⟨by kernel_rfl, fun V hV => ?_⟩
                   have q0 := (lateK_g hV).2.1; clear hV
                   go_simp
                  intro hCv8_10 hSv8_10
                  clear hCv8_9 hSv8_9
                  try simp only [Go.Act.put, List.setIfInBounds_toArray, List.set_cons_zero, List.set_cons_succ]
                  refine wpAnyS_take (i := 11) (oi := ?oiv8_11) (v := .pointer (some ⟨wj.heap.size, 1, none⟩)) ?hiv8_11 (by kernel_rfl) (by kernel_rfl) (by kernel_rfl) (lateK_iff (by rfl)) ?hqv8_11 ?hyv8_11 hCv8_10 hSv8_10 ?restv8_11
                  case hiv8_11 => simp only [List.getElem?_toArray, List.getElem?_cons_succ, List.getElem?_cons_zero, Option.some.injEq]; rfl
                  case hqv8_11 => exact fun _ _ _ h => h
                  case hyv8_11 =>
                   refine Or.inl ⟨by kernel_rfl, fun V hV => ?_⟩
                   clear hV
                   go_simp
                  intro hCv8_11 hSv8_11
                  clear hCv8_10 hSv8_10
                  try simp only [Go.Act.put, List.setIfInBounds_toArray, List.set_cons_zero, List.set_cons_succ]
                  refine wpAnyS_take (i := 12) (oi := ?oiv8_12) (v := .int .i64 qy) ?hiv8_12 (by kernel_rfl) (by kernel_rfl) (by kernel_rfl) (lateK_iff (by rfl)) ?hqv8_12 ?hyv8_12 hCv8_11 hSv8_11 ?restv8_12
                  case hiv8_12 => simp only [List.getElem?_toArray, List.getElem?_cons_succ, List.getElem?_cons_zero, Option.some.injEq]; rfl
                  case hqv8_12 => exact fun _ _ _ h => h
                  case hyv8_12 =>
                   refine Or.inl ⟨by kernel_rfl, fun V hV => ?_⟩
                   have q0 := (lateK_g hV).2.2.2; clear hV
                   go_simp
                  intro hCv8_12 hSv8_12
                  clear hCv8_11 hSv8_11
                  try simp only [Go.Act.put, List.setIfInBounds_toArray, List.set_cons_zero, List.set_cons_succ]
                  refine wpAnyS_take (i := 13) (oi := ?oiv8_13) (v := .int .i64 dy) ?hiv8_13 (by kernel_rfl) (by kernel_rfl) (by kernel_rfl) (lateK_iff (by rfl)) ?hqv8_13 ?hyv8_13 hCv8_12 hSv8_12 ?restv8_13
                  case hiv8_13 => simp only [List.getElem?_toArray, List.getElem?_cons_succ, List.getElem?_cons_zero, Option.some.injEq]; rfl
                  case hqv8_13 => exact fun _ _ _ h => h
                  case hyv8_13 =>
                   refine Or.inl ⟨by kernel_rfl, fun V hV => ?_⟩
                   clear hV
                   go_simp
                  intro hCv8_13 hSv8_13
                  clear hCv8_12 hSv8_12
                  try simp only [Go.Act.put, List.setIfInBounds_toArray, List.set_cons_zero, List.set_cons_succ]
                  refine wpAnyS_ready (rs := [8]) (by kernel_rfl) (by simp) ?_
                  refine AllReadyS.cons rfl hCv8_13 (fun K hK => ?_) AllReadyS.nil
                  go_simp
                  refine (mrsquare_is dx DX.out.1 DX.out.2 _ HX).mono ?_; rintro e w1 ⟨rfl, rfl⟩
                  refine hK.out _ _ hG0 (fun hCv8_14 hSv8_14 => ?_)
                  clear hK hCv8_13 hSv8_13 K
                  try simp only [Go.Act.put, List.setIfInBounds_toArray, List.set_cons_zero, List.set_cons_succ]
                  refine wpAnyS_ready (rs := [14]) (by kernel_rfl) (by simp) ?_
                  refine AllReadyS.cons rfl hCv8_14 (fun K hK => ?_) AllReadyS.nil
                  go_simp
                  refine (mrsquare_is dy DY.out.1 DY.out.2 _ HY).mono ?_; rintro e w1 ⟨rfl, rfl⟩
                  refine hK.out _ _ hG0 (fun hCv8_15 hSv8_15 => ?_)
                  clear hK hCv8_14 hSv8_14 K
                  try simp only [Go.Act.put, List.setIfInBounds_toArray, List.set_cons_zero, List.set_cons_succ]
                  refine wpAnyS_take (i := 15) (oi := ?oiv8_16) (v := .int .i64 n) ?hiv8_16 (by kernel_rfl) (by kernel_rfl) (by kernel_rfl) (lateK_iff (by rfl)) ?hqv8_16 ?hyv8_16 hCv8_15 hSv8_15 ?restv8_16
                  case hiv8_16 => simp only [List.getElem?_toArray, List.getElem?_cons_succ, List.getElem?_cons_zero, Option.some.injEq]; rfl
                  case hqv8_16 => exact fun _ _ _ h => h
                  case hyv8_16 =>
                   refine Or.inl ⟨by kernel_rfl, fun V hV => ?_⟩
                   clear hV
                   go_simp
                  intro hCv8_16 hSv8_16
                  clear hCv8_15 hSv8_15
                  try simp only [Go.Act.put, List.setIfInBounds_toArray, List.set_cons_zero, List.set_cons_succ]
                  refine wpAnyS_take (i := 16) (oi := ?oiv8_17) (v := .int .i64 c) ?hiv8_17 (by kernel_rfl) (by kernel_rfl) (by kernel_rfl) (lateK_iff (by rfl)) ?hqv8_17 ?hyv8_17 hCv8_16 hSv8_16 ?restv8_17
                  case hiv8_17 => simp only [List.getElem?_toArray, List.getElem?_cons_succ, List.getElem?_cons_zero, Option.some.injEq]; rfl
                  case hqv8_17 => exact fun _ _ _ h => h
                  case hyv8_17 =>
                   refine Or.inl ⟨by kernel_rfl, fun V hV => ?_⟩
                   clear hV
                   go_simp
                  intro hCv8_17 hSv8_17
                  clear hCv8_16 hSv8_16
                  try simp only [Go.Act.put, List.setIfInBounds_toArray, List.set_cons_zero, List.set_cons_succ]
                  refine wpAnyS_take (i := 17) (oi := ?oiv8_18) (v := .pointer (some ⟨g1, j, none⟩)) ?hiv8_18 (by kernel_rfl) (by kernel_rfl) (by kernel_rfl) (lateK_iff (by rfl)) ?hqv8_18 ?hyv8_18 hCv8_17 hSv8_17 ?restv8_18
                  case hiv8_18 => simp only [List.getElem?_toArray, List.getElem?_cons_succ, List.getElem?_cons_zero, Option.some.injEq]; rfl
                  case hqv8_18 => exact fun _ _ _ h => h
                  case hyv8_18 =>
                   refine Or.inl ⟨by kernel_rfl, fun V hV => ?_⟩
                   clear hV
                   go_simp
                  intro hCv8_18 hSv8_18
                  clear hCv8_17 hSv8_17
                  try simp only [Go.Act.put, List.setIfInBounds_toArray, List.set_cons_zero, List.set_cons_succ]
                  refine wpAnyS_ready (rs := [18]) (by kernel_rfl) (by simp) ?_
                  refine AllReadyS.cons rfl hCv8_18 (fun K hK => ?_) AllReadyS.nil
                  go_simp
                  refine hK.out _ _ ⟨(World.cell?_setCell_other _ _ _ _ N4.out.1.symm).trans hG0.1, (World.cell?_setCell_other _ _ _ _ N4.out.2.1.symm).trans hG0.2.1, (World.cell?_setCell_other _ _ _ _ N4.out.2.2.1.symm).trans hG0.2.2.1, (World.cell?_setCell_other _ _ _ _ N4.out.2.2.2.symm).trans hG0.2.2.2⟩ (fun hCv8_19 hSv8_19 => ?_)
                  clear hK hCv8_18 hSv8_18 K
                  try simp only [Go.Act.put, List.setIfInBounds_toArray, List.set_cons_zero, List.set_cons_succ]
                  refine wpAnyS_done (by kernel_rfl) ?_ _
                  clear hCv8_19 hSv8_19
                  have hd : frD (sqL a b) k j = c := by
                   have hp := HPJ.out
                   have ho := HOJ.out
                   have hc := HC.out
                   have hr := HDR.out
                   unfold frO at ho hc
                   have hc2 := hc (by omega)
                   rw [HK0.out] at *
                   rw [HJ0.out] at *
                   rw [if_neg (by omega), Nat.add_sub_cancel] at ho
                   rw [if_neg (by omega), Nat.add_sub_cancel, Nat.add_sub_cancel] at hc2
                   simp only [frD, mn3]
                   rw [hr, hp, ho, ← hc2]
                   omega
                  have HD2 := Lib.hid hd
                  have HG4 := Lib.hid (mgrown_set GQ.out LG.out j (.int .i64 c))
                  have HR4 : Hid (RowAt (wq.setCell ⟨g1, j, none⟩ (.int .i64 c)) g1 b.length (frM (sqL a b) k (j + 1))) := by
                   have q := HRQ.out.set j c
                   have e := frM_set (sqL a b) k j
                   rw [HD2.out] at e
                   rw [e] at q; exact q
                  have HB4 : Hid ((wq.setCell ⟨g1, j, none⟩ (.int .i64 c)).heap[bx]? = some (.cells #[.int .i64 px, .int .i64 py] 64 (0, 0))) := by
                   show _ = _
                   rw [Below.heap_setCell _ _ _ _ (by show bx ≠ g1; exact fun e => NG.out e.symm)]; exact BXQ.out
                  have HC4 : Hid (0 < j + 1 → oj = frO (sqL a b) k (j + 1 - 1)) := fun _ => by rw [Nat.add_sub_cancel]; exact HOJ.out.symm
                  clear hd hG0 frq crq
                  go_wp2_with fail
                  go_roundw
                  case rel => exact ⟨j + 1, oj, HJL.out, by go_num, rfl, HC4.out, HG4.out, HR4.out, HB4.out⟩
                  case measure => have := HJL.out; simp [intOf]; omega
                ·
                 rcases (by omega : dr < n ∨ ¬ dr < n) with hm | hm
                 ·
                  go_upto_region 33 with (fail)
                  have bq : (wj.alloc (.cells #[.int .i64 qx, .int .i64 qy] 64)).drew.heap[wj.heap.size]? = some (.cells #[.int .i64 qx, .int .i64 qy] 64 (0, 0)) := mheap_new wj _
                  have gq : wj.grownBy (wj.alloc (.cells #[.int .i64 qx, .int .i64 qy] 64)).drew none := grown_trans (World.grownBy_alloc _ _ _) (grown_drewN _ _ 1)
                  have bxq := mblock_at HBX.out gq (by simp)
                  have HRQ := Lib.hid (HR.out.grown gq)
                  have frq := HRQ.out.free j
                  have crq := HRQ.out.cell (k := j) HJL.out
                  have NJ : Hid (g1 ≠ wj.heap.size) := fun e => by have := lt_of_block (show wj.heap[g1]? = _ from HR.out); omega
                  have hG0 : (fun V => V.cell? ⟨bx, 0, none⟩ = some (.int .i64 px) ∧ V.cell? ⟨bx, 1, none⟩ = some (.int .i64 py) ∧ V.cell? ⟨wj.heap.size, 0, none⟩ = some (.int .i64 qx) ∧ V.cell? ⟨wj.heap.size, 1, none⟩ = some (.int .i64 qy)) (wj.alloc (.cells #[.int .i64 qx, .int .i64 qy] 64)).drew := ⟨mblock_cell bxq 0 _ rfl, mblock_cell bxq 1 _ rfl, mblock_cell bq 0 _ rfl, mblock_cell bq 1 _ rfl⟩
                  have BXQ := Lib.hid bxq
                  have GQ := Lib.hid (grown_trans HGJ.out gq)
                  clear xb0 xb1 cr0 cr bq bxq y0 y1 gq
                  have n1 : (⟨bx, 0, none⟩ : Addr) ≠ ⟨g1, j, none⟩ := fun e => NG.out (congrArg Addr.block e).symm
                  have n2 : (⟨bx, 1, none⟩ : Addr) ≠ ⟨g1, j, none⟩ := fun e => NG.out (congrArg Addr.block e).symm
                  have n3 : (⟨wj.heap.size, 0, none⟩ : Addr) ≠ ⟨g1, j, none⟩ := fun e => NJ.out (congrArg Addr.block e).symm
                  have n4 : (⟨wj.heap.size, 1, none⟩ : Addr) ≠ ⟨g1, j, none⟩ := fun e => NJ.out (congrArg Addr.block e).symm
                  have N4 := Lib.hid (And.intro n1 (And.intro n2 (And.intro n3 n4)))
                  clear n1 n2 n3 n4
                  refine region_late (lateK (fun V => V.cell? ⟨bx, 0, none⟩ = some (.int .i64 px) ∧ V.cell? ⟨bx, 1, none⟩ = some (.int .i64 py) ∧ V.cell? ⟨wj.heap.size, 0, none⟩ = some (.int .i64 qx) ∧ V.cell? ⟨wj.heap.size, 1, none⟩ = some (.int .i64 qy)) []) (by kernel_rfl) hG0 (fun hCv9_0 hSv9_0 => ?_)
                  generalize (wj.alloc (.cells #[.int .i64 qx, .int .i64 qy] 64)).drew = wq at *
                  refine wpAnyS_take (i := 0) (oi := ?oiv9_1) (v := .slice (some ⟨g1, 0, none⟩) b.length b.length) ?hiv9_1 (by kernel_rfl) (by kernel_rfl) (by kernel_rfl) (lateK_iff (by rfl)) ?hqv9_1 ?hyv9_1 hCv9_0 hSv9_0 ?restv9_1
                  case hiv9_1 => simp only [List.getElem?_toArray, List.getElem?_cons_succ, List.getElem?_cons_zero, Option.some.injEq]; rfl
                  case hqv9_1 => exact fun _ _ _ h => h
                  case hyv9_1 =>
                   refine Or.inl ⟨by kernel_rfl, fun V hV => ?_⟩
                   clear hV
                   go_simp
                  intro hCv9_1 hSv9_1
                  clear hCv9_0 hSv9_0
                  try simp only [Go.Act.put, List.setIfInBounds_toArray, List.set_cons_zero, List.set_cons_succ]
                  refine wpAnyS_take (i := 1) (oi := ?oiv9_2) (v := .int .i64 (j : Int)) ?hiv9_2 (by kernel_rfl) (by kernel_rfl) (by kernel_rfl) (lateK_iff (by rfl)) ?hqv9_2 ?hyv9_2 hCv9_1 hSv9_1 ?restv9_2
                  case hiv9_2 => simp only [List.getElem?_toArray, List.getElem?_cons_succ, List.getElem?_cons_zero, Option.some.injEq]; rfl
                  case hqv9_2 => exact fun _ _ _ h => h
                  case hyv9_2 =>
                   refine Or.inl ⟨by kernel_rfl, fun V hV => ?_⟩
                   clear hV
                   go_simp
                  intro hCv9_2 hSv9_2
                  clear hCv9_1 hSv9_1
                  try simp only [Go.Act.put, List.setIfInBounds_toArray, List.set_cons_zero, List.set_cons_succ]
                  refine wpAnyS_take (i := 2) (oi := ?oiv9_3) (v := .int .i64 dr) ?hiv9_3 (by kernel_rfl) (by kernel_rfl) (by kernel_rfl) (lateK_iff (by rfl)) ?hqv9_3 ?hyv9_3 hCv9_2 hSv9_2 ?restv9_3
                  case hiv9_3 => simp only [List.getElem?_toArray, List.getElem?_cons_succ, List.getElem?_cons_zero, Option.some.injEq]; rfl
                  case hqv9_3 => exact fun _ _ _ h => h
                  case hyv9_3 =>
                   refine Or.inl ⟨by kernel_rfl, fun V hV => ?_⟩
                   clear hV
                   go_simp
                  intro hCv9_3 hSv9_3
                  clear hCv9_2 hSv9_2
                  try simp only [Go.Act.put, List.setIfInBounds_toArray, List.set_cons_zero, List.set_cons_succ]
                  refine wpAnyS_take (i := 3) (oi := ?oiv9_4) (v := .pointer (some ⟨bx, 0, none⟩)) ?hiv9_4 (by kernel_rfl) (by kernel_rfl) (by kernel_rfl) (lateK_iff (by rfl)) ?hqv9_4 ?hyv9_4 hCv9_3 hSv9_3 ?restv9_4
                  case hiv9_4 => simp only [List.getElem?_toArray, List.getElem?_cons_succ, List.getElem?_cons_zero, Option.some.injEq]; rfl
                  case hqv9_4 => exact fun _ _ _ h => h
                  case hyv9_4 =>
                   refine Or.inl ⟨by kernel_rfl, fun V hV => ?_⟩
                   clear hV
                   go_simp
                  intro hCv9_4 hSv9_4
                  clear hCv9_3 hSv9_3
                  try simp only [Go.Act.put, List.setIfInBounds_toArray, List.set_cons_zero, List.set_cons_succ]
                  refine wpAnyS_take (i := 4) (oi := ?oiv9_5) (v := .int .i64 px) ?hiv9_5 (by kernel_rfl) (by kernel_rfl) (by kernel_rfl) (lateK_iff (by rfl)) ?hqv9_5 ?hyv9_5 hCv9_4 hSv9_4 ?restv9_5
                  case hiv9_5 => simp only [List.getElem?_toArray, List.getElem?_cons_succ, List.getElem?_cons_zero, Option.some.injEq]; rfl
                  case hqv9_5 => exact fun _ _ _ h => h
                  case hyv9_5 =>
                   refine Or.inl ⟨by kernel_rfl, fun V hV => ?_⟩
                   have q0 := (lateK_g hV).1; clear hV
                   go_simp
                  intro hCv9_5 hSv9_5
                  clear hCv9_4 hSv9_4
                  try simp only [Go.Act.put, List.setIfInBounds_toArray, List.set_cons_zero, List.set_cons_succ]
                  refine wpAnyS_take (i := 5) (oi := ?oiv9_6) (v := .pointer (some ⟨wj.heap.size, 0, none⟩)) ?hiv9_6 (by kernel_rfl) (by kernel_rfl) (by kernel_rfl) (lateK_iff (by rfl)) ?hqv9_6 ?hyv9_6 hCv9_5 hSv9_5 ?restv9_6
                  case hiv9_6 => simp only [List.getElem?_toArray, List.getElem?_cons_succ, List.getElem?_cons_zero, Option.some.injEq]; rfl
                  case hqv9_6 => exact fun _ _ _ h => h
                  case hyv9_6 =>
                   refine Or.inl ⟨by kernel_rfl, fun V hV => ?_⟩
                   clear hV
                   go_simp
                  intro hCv9_6 hSv9_6
                  clear hCv9_5 hSv9_5
                  try simp only [Go.Act.put, List.setIfInBounds_toArray, List.set_cons_zero, List.set_cons_succ]
                  refine wpAnyS_take (i := 6) (oi := ?oiv9_7) (v := .int .i64 qx) ?hiv9_7 (by kernel_rfl) (by kernel_rfl) (by kernel_rfl) (lateK_iff (by rfl)) ?hqv9_7 ?hyv9_7 hCv9_6 hSv9_6 ?restv9_7
                  case hiv9_7 => simp only [List.getElem?_toArray, List.getElem?_cons_succ, List.getElem?_cons_zero, Option.some.injEq]; rfl
                  case hqv9_7 => exact fun _ _ _ h => h
                  case hyv9_7 =>
                   refine Or.inl ⟨by kernel_rfl, fun V hV => ?_⟩
                   have q0 := (lateK_g hV).2.2.1; clear hV
                   go_simp
                  intro hCv9_7 hSv9_7
                  clear hCv9_6 hSv9_6
                  try simp only [Go.Act.put, List.setIfInBounds_toArray, List.set_cons_zero, List.set_cons_succ]
                  refine wpAnyS_take (i := 7) (oi := ?oiv9_8) (v := .int .i64 dx) ?hiv9_8 (by kernel_rfl) (by kernel_rfl) (by kernel_rfl) (lateK_iff (by rfl)) ?hqv9_8 ?hyv9_8 hCv9_7 hSv9_7 ?restv9_8
                  case hiv9_8 => simp only [List.getElem?_toArray, List.getElem?_cons_succ, List.getElem?_cons_zero, Option.some.injEq]; rfl
                  case hqv9_8 => exact fun _ _ _ h => h
                  case hyv9_8 =>
                   refine Or.inl ⟨by kernel_rfl, fun V hV => ?_⟩
                   clear hV
                   go_simp
                  intro hCv9_8 hSv9_8
                  clear hCv9_7 hSv9_7
                  try simp only [Go.Act.put, List.setIfInBounds_toArray, List.set_cons_zero, List.set_cons_succ]
                  refine wpAnyS_take (i := 9) (oi := ?oiv9_9) (v := .pointer (some ⟨bx, 1, none⟩)) ?hiv9_9 (by kernel_rfl) (by kernel_rfl) (by kernel_rfl) (lateK_iff (by rfl)) ?hqv9_9 ?hyv9_9 hCv9_8 hSv9_8 ?restv9_9
                  case hiv9_9 => simp only [List.getElem?_toArray, List.getElem?_cons_succ, List.getElem?_cons_zero, Option.some.injEq]; rfl
                  case hqv9_9 => exact fun _ _ _ h => h
                  case hyv9_9 =>
                   refine Or.inl ⟨by kernel_rfl, fun V hV => ?_⟩
                   clear hV
                   go_simp
                  intro hCv9_9 hSv9_9
                  clear hCv9_8 hSv9_8
                  try simp only [Go.Act.put, List.setIfInBounds_toArray, List.set_cons_zero, List.set_cons_succ]
                  refine wpAnyS_take (i := 10) (oi := ?oiv9_10) (v := .int .i64 py) ?hiv9_10 (by kernel_rfl) (by kernel_rfl) (by kernel_rfl) (lateK_iff (by rfl)) ?hqv9_10 ?hyv9_10 hCv9_9 hSv9_9 ?restv9_10
                  case hiv9_10 => simp only [List.getElem?_toArray, List.getElem?_cons_succ, List.getElem?_cons_zero, Option.some.injEq]; rfl
                  case hqv9_10 => exact fun _ _ _ h => h
                  case hyv9_10 =>
                   refine Or.inl ⟨by kernel_rfl, fun V hV => ?_⟩
                   have q0 := (lateK_g hV).2.1; clear hV
                   go_simp
                  intro hCv9_10 hSv9_10
                  clear hCv9_9 hSv9_9
                  try simp only [Go.Act.put, List.setIfInBounds_toArray, List.set_cons_zero, List.set_cons_succ]
                  refine wpAnyS_take (i := 11) (oi := ?oiv9_11) (v := .pointer (some ⟨wj.heap.size, 1, none⟩)) ?hiv9_11 (by kernel_rfl) (by kernel_rfl) (by kernel_rfl) (lateK_iff (by rfl)) ?hqv9_11 ?hyv9_11 hCv9_10 hSv9_10 ?restv9_11
                  case hiv9_11 => simp only [List.getElem?_toArray, List.getElem?_cons_succ, List.getElem?_cons_zero, Option.some.injEq]; rfl
                  case hqv9_11 => exact fun _ _ _ h => h
                  case hyv9_11 =>
                   refine Or.inl ⟨by kernel_rfl, fun V hV => ?_⟩
                   clear hV
                   go_simp
                  intro hCv9_11 hSv9_11
                  clear hCv9_10 hSv9_10
                  try simp only [Go.Act.put, List.setIfInBounds_toArray, List.set_cons_zero, List.set_cons_succ]
                  refine wpAnyS_take (i := 12) (oi := ?oiv9_12) (v := .int .i64 qy) ?hiv9_12 (by kernel_rfl) (by kernel_rfl) (by kernel_rfl) (lateK_iff (by rfl)) ?hqv9_12 ?hyv9_12 hCv9_11 hSv9_11 ?restv9_12
                  case hiv9_12 => simp only [List.getElem?_toArray, List.getElem?_cons_succ, List.getElem?_cons_zero, Option.some.injEq]; rfl
                  case hqv9_12 => exact fun _ _ _ h => h
                  case hyv9_12 =>
                   refine Or.inl ⟨by kernel_rfl, fun V hV => ?_⟩
                   have q0 := (lateK_g hV).2.2.2; clear hV
                   go_simp
                  intro hCv9_12 hSv9_12
                  clear hCv9_11 hSv9_11
                  try simp only [Go.Act.put, List.setIfInBounds_toArray, List.set_cons_zero, List.set_cons_succ]
                  refine wpAnyS_take (i := 13) (oi := ?oiv9_13) (v := .int .i64 dy) ?hiv9_13 (by kernel_rfl) (by kernel_rfl) (by kernel_rfl) (lateK_iff (by rfl)) ?hqv9_13 ?hyv9_13 hCv9_12 hSv9_12 ?restv9_13
                  case hiv9_13 => simp only [List.getElem?_toArray, List.getElem?_cons_succ, List.getElem?_cons_zero, Option.some.injEq]; rfl
                  case hqv9_13 => exact fun _ _ _ h => h
                  case hyv9_13 =>
                   refine Or.inl ⟨by kernel_rfl, fun V hV => ?_⟩
                   clear hV
                   go_simp
                  intro hCv9_13 hSv9_13
                  clear hCv9_12 hSv9_12
                  try simp only [Go.Act.put, List.setIfInBounds_toArray, List.set_cons_zero, List.set_cons_succ]
                  refine wpAnyS_ready (rs := [8]) (by kernel_rfl) (by simp) ?_
                  refine AllReadyS.cons rfl hCv9_13 (fun K hK => ?_) AllReadyS.nil
                  go_simp
                  refine (mrsquare_is dx DX.out.1 DX.out.2 _ HX).mono ?_; rintro e w1 ⟨rfl, rfl⟩
                  refine hK.out _ _ hG0 (fun hCv9_14 hSv9_14 => ?_)
                  clear hK hCv9_13 hSv9_13 K
                  try simp only [Go.Act.put, List.setIfInBounds_toArray, List.set_cons_zero, List.set_cons_succ]
                  refine wpAnyS_ready (rs := [14]) (by kernel_rfl) (by simp) ?_
                  refine AllReadyS.cons rfl hCv9_14 (fun K hK => ?_) AllReadyS.nil
                  go_simp
                  refine (mrsquare_is dy DY.out.1 DY.out.2 _ HY).mono ?_; rintro e w1 ⟨rfl, rfl⟩
                  refine hK.out _ _ hG0 (fun hCv9_15 hSv9_15 => ?_)
                  clear hK hCv9_14 hSv9_14 K
                  try simp only [Go.Act.put, List.setIfInBounds_toArray, List.set_cons_zero, List.set_cons_succ]
                  refine wpAnyS_take (i := 15) (oi := ?oiv9_16) (v := .int .i64 n) ?hiv9_16 (by kernel_rfl) (by kernel_rfl) (by kernel_rfl) (lateK_iff (by rfl)) ?hqv9_16 ?hyv9_16 hCv9_15 hSv9_15 ?restv9_16
                  case hiv9_16 => simp only [List.getElem?_toArray, List.getElem?_cons_succ, List.getElem?_cons_zero, Option.some.injEq]; rfl
                  case hqv9_16 => exact fun _ _ _ h => h
                  case hyv9_16 =>
                   refine Or.inl ⟨by kernel_rfl, fun V hV => ?_⟩
                   clear hV
                   go_simp
                  intro hCv9_16 hSv9_16
                  clear hCv9_15 hSv9_15
                  try simp only [Go.Act.put, List.setIfInBounds_toArray, List.set_cons_zero, List.set_cons_succ]
                  refine wpAnyS_take (i := 16) (oi := ?oiv9_17) (v := .int .i64 n) ?hiv9_17 (by kernel_rfl) (by kernel_rfl) (by kernel_rfl) (lateK_iff (by rfl)) ?hqv9_17 ?hyv9_17 hCv9_16 hSv9_16 ?restv9_17
                  case hiv9_17 => simp only [List.getElem?_toArray, List.getElem?_cons_succ, List.getElem?_cons_zero, Option.some.injEq]; rfl
                  case hqv9_17 => exact fun _ _ _ h => h
                  case hyv9_17 =>
                   refine Or.inl ⟨by kernel_rfl, fun V hV => ?_⟩
                   clear hV
                   go_simp
                  intro hCv9_17 hSv9_17
                  clear hCv9_16 hSv9_16
                  try simp only [Go.Act.put, List.setIfInBounds_toArray, List.set_cons_zero, List.set_cons_succ]
                  refine wpAnyS_take (i := 17) (oi := ?oiv9_18) (v := .pointer (some ⟨g1, j, none⟩)) ?hiv9_18 (by kernel_rfl) (by kernel_rfl) (by kernel_rfl) (lateK_iff (by rfl)) ?hqv9_18 ?hyv9_18 hCv9_17 hSv9_17 ?restv9_18
                  case hiv9_18 => simp only [List.getElem?_toArray, List.getElem?_cons_succ, List.getElem?_cons_zero, Option.some.injEq]; rfl
                  case hqv9_18 => exact fun _ _ _ h => h
                  case hyv9_18 =>
                   refine Or.inl ⟨by kernel_rfl, fun V hV => ?_⟩
                   clear hV
                   go_simp
                  intro hCv9_18 hSv9_18
                  clear hCv9_17 hSv9_17
                  try simp only [Go.Act.put, List.setIfInBounds_toArray, List.set_cons_zero, List.set_cons_succ]
                  refine wpAnyS_ready (rs := [18]) (by kernel_rfl) (by simp) ?_
                  refine AllReadyS.cons rfl hCv9_18 (fun K hK => ?_) AllReadyS.nil
                  go_simp
                  refine hK.out _ _ ⟨(World.cell?_setCell_other _ _ _ _ N4.out.1.symm).trans hG0.1, (World.cell?_setCell_other _ _ _ _ N4.out.2.1.symm).trans hG0.2.1, (World.cell?_setCell_other _ _ _ _ N4.out.2.2.1.symm).trans hG0.2.2.1, (World.cell?_setCell_other _ _ _ _ N4.out.2.2.2.symm).trans hG0.2.2.2⟩ (fun hCv9_19 hSv9_19 => ?_)
                  clear hK hCv9_18 hSv9_18 K
                  try simp only [Go.Act.put, List.setIfInBounds_toArray, List.set_cons_zero, List.set_cons_succ]
                  refine wpAnyS_done (by kernel_rfl) ?_ _
                  clear hCv9_19 hSv9_19
                  have hd : frD (sqL a b) k j = n := by
                   have hp := HPJ.out
                   have ho := HOJ.out
                   have hc := HC.out
                   have hr := HDR.out
                   unfold frO at ho hc
                   have hc2 := hc (by omega)
                   rw [HK0.out] at *
                   rw [HJ0.out] at *
                   rw [if_neg (by omega), Nat.add_sub_cancel] at ho
                   rw [if_neg (by omega), Nat.add_sub_cancel, Nat.add_sub_cancel] at hc2
                   simp only [frD, mn3]
                   rw [hr, hp, ho, ← hc2]
                   omega
                  have HD2 := Lib.hid hd
                  have HG4 := Lib.hid (mgrown_set GQ.out LG.out j (.int .i64 n))
                  have HR4 : Hid (RowAt (wq.setCell ⟨g1, j, none⟩ (.int .i64 n)) g1 b.length (frM (sqL a b) k (j + 1))) := by
                   have q := HRQ.out.set j n
                   have e := frM_set (sqL a b) k j
                   rw [HD2.out] at e
                   rw [e] at q; exact q
                  have HB4 : Hid ((wq.setCell ⟨g1, j, none⟩ (.int .i64 n)).heap[bx]? = some (.cells #[.int .i64 px, .int .i64 py] 64 (0, 0))) := by
                   show _ = _
                   rw [Below.heap_setCell _ _ _ _ (by show bx ≠ g1; exact fun e => NG.out e.symm)]; exact BXQ.out
                  have HC4 : Hid (0 < j + 1 → oj = frO (sqL a b) k (j + 1 - 1)) := fun _ => by rw [Nat.add_sub_cancel]; exact HOJ.out.symm
                  clear hd hG0 frq crq
                  go_wp2_with fail
                  go_roundw
                  case rel => exact ⟨j + 1, oj, HJL.out, by go_num, rfl, HC4.out, HG4.out, HR4.out, HB4.out⟩
                  case measure => have := HJL.out; simp [intOf]; omega
                 ·
                  go_upto_region 33 with (fail)
                  have bq : (wj.alloc (.cells #[.int .i64 qx, .int .i64 qy] 64)).drew.heap[wj.heap.size]? = some (.cells #[.int .i64 qx, .int .i64 qy] 64 (0, 0)) := mheap_new wj _
                  have gq : wj.grownBy (wj.alloc (.cells #[.int .i64 qx, .int .i64 qy] 64)).drew none := grown_trans (World.grownBy_alloc _ _ _) (grown_drewN _ _ 1)
                  have bxq := mblock_at HBX.out gq (by simp)
                  have HRQ := Lib.hid (HR.out.grown gq)
                  have frq := HRQ.out.free j
                  have crq := HRQ.out.cell (k := j) HJL.out
                  have NJ : Hid (g1 ≠ wj.heap.size) := fun e => by have := lt_of_block (show wj.heap[g1]? = _ from HR.out); omega
                  have hG0 : (fun V => V.cell? ⟨bx, 0, none⟩ = some (.int .i64 px) ∧ V.cell? ⟨bx, 1, none⟩ = some (.int .i64 py) ∧ V.cell? ⟨wj.heap.size, 0, none⟩ = some (.int .i64 qx) ∧ V.cell? ⟨wj.heap.size, 1, none⟩ = some (.int .i64 qy)) (wj.alloc (.cells #[.int .i64 qx, .int .i64 qy] 64)).drew := ⟨mblock_cell bxq 0 _ rfl, mblock_cell bxq 1 _ rfl, mblock_cell bq 0 _ rfl, mblock_cell bq 1 _ rfl⟩
                  have BXQ := Lib.hid bxq
                  have GQ := Lib.hid (grown_trans HGJ.out gq)
                  clear xb0 xb1 cr0 cr bq bxq y0 y1 gq
                  have n1 : (⟨bx, 0, none⟩ : Addr) ≠ ⟨g1, j, none⟩ := fun e => NG.out (congrArg Addr.block e).symm
                  have n2 : (⟨bx, 1, none⟩ : Addr) ≠ ⟨g1, j, none⟩ := fun e => NG.out (congrArg Addr.block e).symm
                  have n3 : (⟨wj.heap.size, 0, none⟩ : Addr) ≠ ⟨g1, j, none⟩ := fun e => NJ.out (congrArg Addr.block e).symm
                  have n4 : (⟨wj.heap.size, 1, none⟩ : Addr) ≠ ⟨g1, j, none⟩ := fun e => NJ.out (congrArg Addr.block e).symm
                  have N4 := Lib.hid (And.intro n1 (And.intro n2 (And.intro n3 n4)))
                  clear n1 n2 n3 n4
                  refine region_late (lateK (fun V => V.cell? ⟨bx, 0, none⟩ = some (.int .i64 px) ∧ V.cell? ⟨bx, 1, none⟩ = some (.int .i64 py) ∧ V.cell? ⟨wj.heap.size, 0, none⟩ = some (.int .i64 qx) ∧ V.cell? ⟨wj.heap.size, 1, none⟩ = some (.int .i64 qy)) []) (by kernel_rfl) hG0 (fun hCv10_0 hSv10_0 => ?_)
                  generalize (wj.alloc (.cells #[.int .i64 qx, .int .i64 qy] 64)).drew = wq at *
                  refine wpAnyS_take (i := 0) (oi := ?oiv10_1) (v := .slice (some ⟨g1, 0, none⟩) b.length b.length) ?hiv10_1 (by kernel_rfl) (by kernel_rfl) (by kernel_rfl) (lateK_iff (by rfl)) ?hqv10_1 ?hyv10_1 hCv10_0 hSv10_0 ?restv10_1
                  case hiv10_1 => simp only [List.getElem?_toArray, List.getElem?_cons_succ, List.getElem?_cons_zero, Option.some.injEq]; rfl
                  case hqv10_1 => exact fun _ _ _ h => h
                  case hyv10_1 =>
                   refine Or.inl ⟨by kernel_rfl, fun V hV => ?_⟩
                   clear hV
                   go_simp
                  intro hCv10_1 hSv10_1
                  clear hCv10_0 hSv10_0
                  try simp only [Go.Act.put, List.setIfInBounds_toArray, List.set_cons_zero, List.set_cons_succ]
                  refine wpAnyS_take (i := 1) (oi := ?oiv10_2) (v := .int .i64 (j : Int)) ?hiv10_2 (by kernel_rfl) (by kernel_rfl) (by kernel_rfl) (lateK_iff (by rfl)) ?hqv10_2 ?hyv10_2 hCv10_1 hSv10_1 ?restv10_2
                  case hiv10_2 => simp only [List.getElem?_toArray, List.getElem?_cons_succ, List.getElem?_cons_zero, Option.some.injEq]; rfl
                  case hqv10_2 => exact fun _ _ _ h => h
                  case hyv10_2 =>
                   refine Or.inl ⟨by kernel_rfl, fun V hV => ?_⟩
                   clear hV
                   go_simp
                  intro hCv10_2 hSv10_2
                  clear hCv10_1 hSv10_1
                  try simp only [Go.Act.put, List.setIfInBounds_toArray, List.set_cons_zero, List.set_cons_succ]
                  refine wpAnyS_take (i := 2) (oi := ?oiv10_3) (v := .int .i64 dr) ?hiv10_3 (by kernel_rfl) (by kernel_rfl) (by kernel_rfl) (lateK_iff (by rfl)) ?hqv10_3 ?hyv10_3 hCv10_2 hSv10_2 ?restv10_3
                  case hiv10_3 => simp only [List.getElem?_toArray, List.getElem?_cons_succ, List.getElem?_cons_zero, Option.some.injEq]; rfl
                  case hqv10_3 => exact fun _ _ _ h => h
                  case hyv10_3 =>
                   refine Or.inl ⟨by kernel_rfl, fun V hV => ?_⟩
                   clear hV
                   go_simp
                  intro hCv10_3 hSv10_3
                  clear hCv10_2 hSv10_2
                  try simp only [Go.Act.put, List.setIfInBounds_toArray, List.set_cons_zero, List.set_cons_succ]
                  refine wpAnyS_take (i := 3) (oi := ?oiv10_4) (v := .pointer (some ⟨bx, 0, none⟩)) ?hiv10_4 (by kernel_rfl) (by kernel_rfl) (by kernel_rfl) (lateK_iff (by rfl)) ?hqv10_4 ?hyv10_4 hCv10_3 hSv10_3 ?restv10_4
                  case hiv10_4 => simp only [List.getElem?_toArray, List.getElem?_cons_succ, List.getElem?_cons_zero, Option.some.injEq]; rfl
                  case hqv10_4 => exact fun _ _ _ h => h
                  case hyv10_4 =>
                   refine Or.inl ⟨by kernel_rfl, fun V hV => ?_⟩
                   clear hV
                   go_simp
                  intro hCv10_4 hSv10_4
                  clear hCv10_3 hSv10_3
                  try simp only [Go.Act.put, List.setIfInBounds_toArray, List.set_cons_zero, List.set_cons_succ]
                  refine wpAnyS_take (i := 4) (oi := ?oiv10_5) (v := .int .i64 px) ?hiv10_5 (by kernel_rfl) (by kernel_rfl) (by kernel_rfl) (lateK_iff (by rfl)) ?hqv10_5 ?hyv10_5 hCv10_4 hSv10_4 ?restv10_5
                  case hiv10_5 => simp only [List.getElem?_toArray, List.getElem?_cons_succ, List.getElem?_cons_zero, Option.some.injEq]; rfl
                  case hqv10_5 => exact fun _ _ _ h => h
                  case hyv10_5 =>
                   refine Or.inl ⟨by kernel_rfl, fun V hV => ?_⟩
                   have q0 := (lateK_g hV).1; clear hV
                   go_simp
                  intro hCv10_5 hSv10_5
                  clear hCv10_4 hSv10_4
                  try simp only [Go.Act.put, List.setIfInBounds_toArray, List.set_cons_zero, List.set_cons_succ]
                  refine wpAnyS_take (i := 5) (oi := ?oiv10_6) (v := .pointer (some ⟨wj.heap.size, 0, none⟩)) ?hiv10_6 (by kernel_rfl) (by kernel_rfl) (by kernel_rfl) (lateK_iff (by rfl)) ?hqv10_6 ?hyv10_6 hCv10_5 hSv10_5 ?restv10_6
                  case hiv10_6 => simp only [List.getElem?_toArray, List.getElem?_cons_succ, List.getElem?_cons_zero, Option.some.injEq]; rfl
                  case hqv10_6 => exact fun _ _ _ h => h
                  case hyv10_6 =>
                   refine Or.inl ⟨by kernel_rfl, fun V hV => ?_⟩
                   clear hV
                   go_simp
                  intro hCv10_6 hSv10_6
                  clear hCv10_5 hSv10_5
                  try simp only [Go.Act.put, List.setIfInBounds_toArray, List.set_cons_zero, List.set_cons_succ]
                  refine wpAnyS_take (i := 6) (oi := ?oiv10_7) (v := .int .i64 qx) ?hiv10_7 (by kernel_rfl) (by kernel_rfl) (by kernel_rfl) (lateK_iff (by rfl)) ?hqv10_7 ?hyv10_7 hCv10_6 hSv10_6 ?restv10_7
                  case hiv10_7 => simp only [List.getElem?_toArray, List.getElem?_cons_succ, List.getElem?_cons_zero, Option.some.injEq]; rfl
                  case hqv10_7 => exact fun _ _ _ h => h
                  case hyv10_7 =>
                   refine Or.inl ⟨by kernel_rfl, fun V hV => ?_⟩
                   have q0 := (lateK_g hV).2.2.1; clear hV
                   go_simp
                  intro hCv10_7 hSv10_7
                  clear hCv10_6 hSv10_6
                  try simp only [Go.Act.put, List.setIfInBounds_toArray, List.set_cons_zero, List.set_cons_succ]
                  refine wpAnyS_take (i := 7) (oi := ?oiv10_8) (v := .int .i64 dx) ?hiv10_8 (by kernel_rfl) (by kernel_rfl) (by kernel_rfl) (lateK_iff (by rfl)) ?hqv10_8 ?hyv10_8 hCv10_7 hSv10_7 ?restv10_8
                  case hiv10_8 => simp only [List.getElem?_toArray, List.getElem?_cons_succ, List.getElem?_cons_zero, Option.some.injEq]; rfl
                  case hqv10_8 => exact fun _ _ _ h => h
                  case hyv10_8 =>
                   refine Or.inl ⟨by kernel_rfl, fun V hV => ?_⟩
                   clear hV
                   go_simp
                  intro hCv10_8 hSv10_8
                  clear hCv10_7 hSv10_7
                  try simp only [Go.Act.put, List.setIfInBounds_toArray, List.set_cons_zero, List.set_cons_succ]
                  refine wpAnyS_take (i := 9) (oi := ?oiv10_9) (v := .pointer (some ⟨bx, 1, none⟩)) ?hiv10_9 (by kernel_rfl) (by kernel_rfl) (by kernel_rfl) (lateK_iff (by rfl)) ?hqv10_9 ?hyv10_9 hCv10_8 hSv10_8 ?restv10_9
                  case hiv10_9 => simp only [List.getElem?_toArray, List.getElem?_cons_succ, List.getElem?_cons_zero, Option.some.injEq]; rfl
                  case hqv10_9 => exact fun _ _ _ h => h
                  case hyv10_9 =>
                   refine Or.inl ⟨by kernel_rfl, fun V hV => ?_⟩
                   clear hV
                   go_simp
                  intro hCv10_9 hSv10_9
                  clear hCv10_8 hSv10_8
                  try simp only [Go.Act.put, List.setIfInBounds_toArray, List.set_cons_zero, List.set_cons_succ]
                  refine wpAnyS_take (i := 10) (oi := ?oiv10_10) (v := .int .i64 py) ?hiv10_10 (by kernel_rfl) (by kernel_rfl) (by kernel_rfl) (lateK_iff (by rfl)) ?hqv10_10 ?hyv10_10 hCv10_9 hSv10_9 ?restv10_10
                  case hiv10_10 => simp only [List.getElem?_toArray, List.getElem?_cons_succ, List.getElem?_cons_zero, Option.some.injEq]; rfl
                  case hqv10_10 => exact fun _ _ _ h => h
                  case hyv10_10 =>
                   refine Or.inl ⟨by kernel_rfl, fun V hV => ?_⟩
                   have q0 := (lateK_g hV).2.1; clear hV
                   go_simp
                  intro hCv10_10 hSv10_10
                  clear hCv10_9 hSv10_9
                  try simp only [Go.Act.put, List.setIfInBounds_toArray, List.set_cons_zero, List.set_cons_succ]
                  refine wpAnyS_take (i := 11) (oi := ?oiv10_11) (v := .pointer (some ⟨wj.heap.size, 1, none⟩)) ?hiv10_11 (by kernel_rfl) (by kernel_rfl) (by kernel_rfl) (lateK_iff (by rfl)) ?hqv10_11 ?hyv10_11 hCv10_10 hSv10_10 ?restv10_11
                  case hiv10_11 => simp only [List.getElem?_toArray, List.getElem?_cons_succ, List.getElem?_cons_zero, Option.some.injEq]; rfl
                  case hqv10_11 => exact fun _ _ _ h => h
                  case hyv10_11 =>
                   refine Or.inl ⟨by kernel_rfl, fun V hV => ?_⟩
                   clear hV
                   go_simp
                  intro hCv10_11 hSv10_11
                  clear hCv10_10 hSv10_10
                  try simp only [Go.Act.put, List.setIfInBounds_toArray, List.set_cons_zero, List.set_cons_succ]
                  refine wpAnyS_take (i := 12) (oi := ?oiv10_12) (v := .int .i64 qy) ?hiv10_12 (by kernel_rfl) (by kernel_rfl) (by kernel_rfl) (lateK_iff (by rfl)) ?hqv10_12 ?hyv10_12 hCv10_11 hSv10_11 ?restv10_12
                  case hiv10_12 => simp only [List.getElem?_toArray, List.getElem?_cons_succ, List.getElem?_cons_zero, Option.some.injEq]; rfl
                  case hqv10_12 => exact fun _ _ _ h => h
                  case hyv10_12 =>
                   refine Or.inl ⟨by kernel_rfl, fun V hV => ?_⟩
                   have q0 := (lateK_g hV).2.2.2; clear hV
                   go_simp
                  intro hCv10_12 hSv10_12
                  clear hCv10_11 hSv10_11
                  try simp only [Go.Act.put, List.setIfInBounds_toArray, List.set_cons_zero, List.set_cons_succ]
                  refine wpAnyS_take (i := 13) (oi := ?oiv10_13) (v := .int .i64 dy) ?hiv10_13 (by kernel_rfl) (by kernel_rfl) (by kernel_rfl) (lateK_iff (by rfl)) ?hqv10_13 ?hyv10_13 hCv10_12 hSv10_12 ?restv10_13
                  case hiv10_13 => simp only [List.getElem?_toArray, List.getElem?_cons_succ, List.getElem?_cons_zero, Option.some.injEq]; rfl
                  case hqv10_13 => exact fun _ _ _ h => h
                  case hyv10_13 =>
                   refine Or.inl ⟨by kernel_rfl, fun V hV => ?_⟩
                   clear hV
                   go_simp
                  intro hCv10_13 hSv10_13
                  clear hCv10_12 hSv10_12
                  try simp only [Go.Act.put, List.setIfInBounds_toArray, List.set_cons_zero, List.set_cons_succ]
                  refine wpAnyS_ready (rs := [8]) (by kernel_rfl) (by simp) ?_
                  refine AllReadyS.cons rfl hCv10_13 (fun K hK => ?_) AllReadyS.nil
                  go_simp
                  refine (mrsquare_is dx DX.out.1 DX.out.2 _ HX).mono ?_; rintro e w1 ⟨rfl, rfl⟩
                  refine hK.out _ _ hG0 (fun hCv10_14 hSv10_14 => ?_)
                  clear hK hCv10_13 hSv10_13 K
                  try simp only [Go.Act.put, List.setIfInBounds_toArray, List.set_cons_zero, List.set_cons_succ]
                  refine wpAnyS_ready (rs := [14]) (by kernel_rfl) (by simp) ?_
                  refine AllReadyS.cons rfl hCv10_14 (fun K hK => ?_) AllReadyS.nil
                  go_simp
                  refine (mrsquare_is dy DY.out.1 DY.out.2 _ HY).mono ?_; rintro e w1 ⟨rfl, rfl⟩
                  refine hK.out _ _ hG0 (fun hCv10_15 hSv10_15 => ?_)
                  clear hK hCv10_14 hSv10_14 K
                  try simp only [Go.Act.put, List.setIfInBounds_toArray, List.set_cons_zero, List.set_cons_succ]
                  refine wpAnyS_take (i := 15) (oi := ?oiv10_16) (v := .int .i64 n) ?hiv10_16 (by kernel_rfl) (by kernel_rfl) (by kernel_rfl) (lateK_iff (by rfl)) ?hqv10_16 ?hyv10_16 hCv10_15 hSv10_15 ?restv10_16
                  case hiv10_16 => simp only [List.getElem?_toArray, List.getElem?_cons_succ, List.getElem?_cons_zero, Option.some.injEq]; rfl
                  case hqv10_16 => exact fun _ _ _ h => h
                  case hyv10_16 =>
                   refine Or.inl ⟨by kernel_rfl, fun V hV => ?_⟩
                   clear hV
                   go_simp
                  intro hCv10_16 hSv10_16
                  clear hCv10_15 hSv10_15
                  try simp only [Go.Act.put, List.setIfInBounds_toArray, List.set_cons_zero, List.set_cons_succ]
                  refine wpAnyS_take (i := 16) (oi := ?oiv10_17) (v := .int .i64 dr) ?hiv10_17 (by kernel_rfl) (by kernel_rfl) (by kernel_rfl) (lateK_iff (by rfl)) ?hqv10_17 ?hyv10_17 hCv10_16 hSv10_16 ?restv10_17
                  case hiv10_17 => simp only [List.getElem?_toArray, List.getElem?_cons_succ, List.getElem?_cons_zero, Option.some.injEq]; rfl
                  case hqv10_17 => exact fun _ _ _ h => h
                  case hyv10_17 =>
                   refine Or.inl ⟨by kernel_rfl, fun V hV => ?_⟩
                   clear hV
                   go_simp
                  intro hCv10_17 hSv10_17
                  clear hCv10_16 hSv10_16
                  try simp only [Go.Act.put, List.setIfInBounds_toArray, List.set_cons_zero, List.set_cons_succ]
                  refine wpAnyS_take (i := 17) (oi := ?oiv10_18) (v := .pointer (some ⟨g1, j, none⟩)) ?hiv10_18 (by kernel_rfl) (by kernel_rfl) (by kernel_rfl) (lateK_iff (by rfl)) ?hqv10_18 ?hyv10_18 hCv10_17 hSv10_17 ?restv10_18
                  case hiv10_18 => simp only [List.getElem?_toArray, List.getElem?_cons_succ, List.getElem?_cons_zero, Option.some.injEq]; rfl
                  case hqv10_18 => exact fun _ _ _ h => h
                  case hyv10_18 =>
                   refine Or.inl ⟨by kernel_rfl, fun V hV => ?_⟩
                   clear hV
                   go_simp
                  intro hCv10_18 hSv10_18
                  clear hCv10_17 hSv10_17
                  try simp only [Go.Act.put, List.setIfInBounds_toArray, List.set_cons_zero, List.set_cons_succ]
                  refine wpAnyS_ready (rs := [18]) (by kernel_rfl) (by simp) ?_
                  refine AllReadyS.cons rfl hCv10_18 (fun K hK => ?_) AllReadyS.nil
                  go_simp
                  refine hK.out _ _ ⟨(World.cell?_setCell_other _ _ _ _ N4.out.1.symm).trans hG0.1, (World.cell?_setCell_other _ _ _ _ N4.out.2.1.symm).trans hG0.2.1, (World.cell?_setCell_other _ _ _ _ N4.out.2.2.1.symm).trans hG0.2.2.1, (World.cell?_setCell_other _ _ _ _ N4.out.2.2.2.symm).trans hG0.2.2.2⟩ (fun hCv10_19 hSv10_19 => ?_)
                  clear hK hCv10_18 hSv10_18 K
                  try simp only [Go.Act.put, List.setIfInBounds_toArray, List.set_cons_zero, List.set_cons_succ]
                  refine wpAnyS_done (by kernel_rfl) ?_ _
                  clear hCv10_19 hSv10_19
                  have hd : frD (sqL a b) k j = dr := by
                   have hp := HPJ.out
                   have ho := HOJ.out
                   have hc := HC.out
                   have hr := HDR.out
                   unfold frO at ho hc
                   have hc2 := hc (by omega)
                   rw [HK0.out] at *
                   rw [HJ0.out] at *
                   rw [if_neg (by omega), Nat.add_sub_cancel] at ho
                   rw [if_neg (by omega), Nat.add_sub_cancel, Nat.add_sub_cancel] at hc2
                   simp only [frD, mn3]
                   rw [hr, hp, ho, ← hc2]
                   omega
                  have HD2 := Lib.hid hd
                  have HG4 := Lib.hid (mgrown_set GQ.out LG.out j (.int .i64 dr))
                  have HR4 : Hid (RowAt (wq.setCell ⟨g1, j, none⟩ (.int .i64 dr)) g1 b.length (frM (sqL a b) k (j + 1))) := by
                   have q := HRQ.out.set j dr
                   have e := frM_set (sqL a b) k j
                   rw [HD2.out] at e
                   rw [e] at q; exact q
                  have HB4 : Hid ((wq.setCell ⟨g1, j, none⟩ (.int .i64 dr)).heap[bx]? = some (.cells #[.int .i64 px, .int .i64 py] 64 (0, 0))) := by
                   show _ = _
                   rw [Below.heap_setCell _ _ _ _ (by show bx ≠ g1; exact fun e => NG.out e.symm)]; exact BXQ.out
                  have HC4 : Hid (0 < j + 1 → oj = frO (sqL a b) k (j + 1 - 1)) := fun _ => by rw [Nat.add_sub_cancel]; exact HOJ.out.symm
                  clear hd hG0 frq crq
                  go_wp2_with fail
                  go_roundw
                  case rel => exact ⟨j + 1, oj, HJL.out, by go_num, rfl, HC4.out, HG4.out, HR4.out, HB4.out⟩
                  case measure => have := HJL.out; simp [intOf]; omega
               ·
                rcases (by omega : c < oj ∨ ¬ c < oj) with c2 | c2
                ·
                 rcases (by omega : c < n ∨ ¬ c < n) with hm | hm
                 ·
                  go_upto_region 33 with (fail)
                  have bq : (wj.alloc (.cells #[.int .i64 qx, .int .i64 qy] 64)).drew.heap[wj.heap.size]? = some (.cells #[.int .i64 qx, .int .i64 qy] 64 (0, 0)) := mheap_new wj _
                  have gq : wj.grownBy (wj.alloc (.cells #[.int .i64 qx, .int .i64 qy] 64)).drew none := grown_trans (World.grownBy_alloc _ _ _) (grown_drewN _ _ 1)
                  have bxq := mblock_at HBX.out gq (by simp)
                  have HRQ := Lib.hid (HR.out.grown gq)
                  have frq := HRQ.out.free j
                  have crq := HRQ.out.cell (k := j) HJL.out
                  have NJ : Hid (g1 ≠ wj.heap.size) := fun e => by have := lt_of_block (show wj.heap[g1]? = _ from HR.out); omega
                  have hG0 : (fun V => V.cell? ⟨bx, 0, none⟩ = some (.int .i64 px) ∧ V.cell? ⟨bx, 1, none⟩ = some (.int .i64 py) ∧ V.cell? ⟨wj.heap.size, 0, none⟩ = some (.int .i64 qx) ∧ V.cell? ⟨wj.heap.size, 1, none⟩ = some (.int .i64 qy)) (wj.alloc (.cells #[.int .i64 qx, .int .i64 qy] 64)).drew := ⟨mblock_cell bxq 0 _ rfl, mblock_cell bxq 1 _ rfl, mblock_cell bq 0 _ rfl, mblock_cell bq 1 _ rfl⟩
                  have BXQ := Lib.hid bxq
                  have GQ := Lib.hid (grown_trans HGJ.out gq)
                  clear xb0 xb1 cr0 cr bq bxq y0 y1 gq
                  have n1 : (⟨bx, 0, none⟩ : Addr) ≠ ⟨g1, j, none⟩ := fun e => NG.out (congrArg Addr.block e).symm
                  have n2 : (⟨bx, 1, none⟩ : Addr) ≠ ⟨g1, j, none⟩ := fun e => NG.out (congrArg Addr.block e).symm
                  have n3 : (⟨wj.heap.size, 0, none⟩ : Addr) ≠ ⟨g1, j, none⟩ := fun e => NJ.out (congrArg Addr.block e).symm
                  have n4 : (⟨wj.heap.size, 1, none⟩ : Addr) ≠ ⟨g1, j, none⟩ := fun e => NJ.out (congrArg Addr.block e).symm
                  have N4 := Lib.hid (And.intro n1 (And.intro n2 (And.intro n3 n4)))
                  clear n1 n2 n3 n4
                  refine region_late (lateK (fun V => V.cell? ⟨bx, 0, none⟩ = some (.int .i64 px) ∧ V.cell? ⟨bx, 1, none⟩ = some (.int .i64 py) ∧ V.cell? ⟨wj.heap.size, 0, none⟩ = some (.int .i64 qx) ∧ V.cell? ⟨wj.heap.size, 1, none⟩ = some (.int .i64 qy)) []) (by kernel_rfl) hG0 (fun hCv11_0 hSv11_0 => ?_)
                  generalize (wj.alloc (.cells #[.int .i64 qx, .int .i64 qy] 64)).drew = wq at *
                  refine wpAnyS_take (i := 0) (oi := ?oiv11_1) (v := .slice (some ⟨g1, 0, none⟩) b.length b.length) ?hiv11_1 (by kernel_rfl) (by kernel_rfl) (by kernel_rfl) (lateK_iff (by rfl)) ?hqv11_1 ?hyv11_1 hCv11_0 hSv11_0 ?restv11_1
                  case hiv11_1 => simp only [List.getElem?_toArray, List.getElem?_cons_succ, List.getElem?_cons_zero, Option.some.injEq]; rfl
                  case hqv11_1 => exact fun _ _ _ h => h
                  case hyv11_1 =>
                   refine Or.inl ⟨by kernel_rfl, fun V hV => ?_⟩
                   clear hV
                   go_simp
                  intro hCv11_1 hSv11_1
                  clear hCv11_0 hSv11_0
                  try simp only [Go.Act.put, List.setIfInBounds_toArray, List.set_cons_zero, List.set_cons_succ]
                  refine wpAnyS_take (i := 1) (oi := ?oiv11_2) (v := .int .i64 (j : Int)) ?hiv11_2 (by kernel_rfl) (by kernel_rfl) (by kernel_rfl) (lateK_iff (by rfl)) ?hqv11_2 ?hyv11_2 hCv11_1 hSv11_1 ?restv11_2
                  case hiv11_2 => simp only [List.getElem?_toArray, List.getElem?_cons_succ, List.getElem?_cons_zero, Option.some.injEq]; rfl
                  case hqv11_2 => exact fun _ _ _ h => h
                  case hyv11_2 =>
                   refine Or.inl ⟨by kernel_rfl, fun V hV => ?_⟩
                   clear hV
                   go_simp
                  intro hCv11_2 hSv11_2
                  clear hCv11_1 hSv11_1
                  try simp only [Go.Act.put, List.setIfInBounds_toArray, List.set_cons_zero, List.set_cons_succ]
                  refine wpAnyS_take (i := 2) (oi := ?oiv11_3) (v := .int .i64 c) ?hiv11_3 (by kernel_rfl) (by kernel_rfl) (by kernel_rfl) (lateK_iff (by rfl)) ?hqv11_3 ?hyv11_3 hCv11_2 hSv11_2 ?restv11_3
                  case hiv11_3 => simp only [List.getElem?_toArray, List.getElem?_cons_succ, List.getElem?_cons_zero, Option.some.injEq]; rfl
                  case hqv11_3 => exact fun _ _ _ h => h
                  case hyv11_3 =>
                   refine Or.inl ⟨by kernel_rfl, fun V hV => ?_⟩
                   clear hV
                   go_simp
                  intro hCv11_3 hSv11_3
                  clear hCv11_2 hSv11_2
                  try simp only [Go.Act.put, List.setIfInBounds_toArray, List.set_cons_zero, List.set_cons_succ]
                  refine wpAnyS_take (i := 3) (oi := ?oiv11_4) (v := .pointer (some ⟨bx, 0, none⟩)) ?hiv11_4 (by kernel_rfl) (by kernel_rfl) (by kernel_rfl) (lateK_iff (by rfl)) ?hqv11_4 ?hyv11_4 hCv11_3 hSv11_3 ?restv11_4
                  case hiv11_4 => simp only [List.getElem?_toArray, List.getElem?_cons_succ, List.getElem?_cons_zero, Option.some.injEq]; rfl
                  case hqv11_4 => exact fun _ _ _ h => h
                  case hyv11_4 =>
                   refine Or.inl ⟨by kernel_rfl, fun V hV => ?_⟩
                   clear hV
                   go_simp
                  intro hCv11_4 hSv11_4
                  clear hCv11_3 hSv11_3
                  try simp only [Go.Act.put, List.setIfInBounds_toArray, List.set_cons_zero, List.set_cons_succ]
                  refine wpAnyS_take (i := 4) (oi := ?oiv11_5) (v := .int .i64 px) ?hiv11_5 (by kernel_rfl) (by kernel_rfl) (by kernel_rfl) (lateK_iff (by rfl)) ?hqv11_5 ?hyv11_5 hCv11_4 hSv11_4 ?restv11_5
                  case hiv11_5 => simp only [List.getElem?_toArray, List.getElem?_cons_succ, List.getElem?_cons_zero, Option.some.injEq]; rfl
                  case hqv11_5 => exact fun _ _ _ h => h
                  case hyv11_5 =>
                   refine Or.inl ⟨by kernel_rfl, fun V hV => ?_⟩
                   have q0 := (lateK_g hV).1; clear hV
                   go_simp
                  intro hCv11_5 hSv11_5
                  clear hCv11_4 hSv11_4
                  try simp only [Go.Act.put, List.setIfInBounds_toArray, List.set_cons_zero, List.set_cons_succ]
                  refine wpAnyS_take (i := 5) (oi := ?oiv11_6) (v := .pointer (some ⟨wj.heap.size, 0, none⟩)) ?hiv11_6 (by kernel_rfl) (by kernel_rfl) (by kernel_rfl) (lateK_iff (by rfl)) ?hqv11_6 ?hyv11_6 hCv11_5 hSv11_5 ?restv11_6
                  case hiv11_6 => simp only [List.getElem?_toArray, List.getElem?_cons_succ, List.getElem?_cons_zero, Option.some.injEq]; rfl
                  case hqv11_6 => exact fun _ _ _ h => h
                  case hyv11_6 =>
                   refine Or.inl ⟨by kernel_rfl, fun V hV => ?_⟩
                   clear hV
                   go_simp
                  intro hCv11_6 hSv11_6
                  clear hCv11_5 hSv11_5
                  try simp only [Go.Act.put, List.setIfInBounds_toArray, List.set_cons_zero, List.set_cons_succ]
                  refine wpAnyS_take (i := 6) (oi := ?oiv11_7) (v := .int .i64 qx) ?hiv11_7 (by kernel_rfl) (by kernel_rfl) (by kernel_rfl) (lateK_iff (by rfl)) ?hqv11_7 ?hyv11_7 hCv11_6 hSv11_6 ?restv11_7
                  case hiv11_7 => simp only [List.getElem?_toArray, List.getElem?_cons_succ, List.getElem?_cons_zero, Option.some.injEq]; rfl
                  case hqv11_7 => exact fun _ _ _ h => h
                  case hyv11_7 =>
                   refine Or.inl ⟨by kernel_rfl, fun V hV => ?_⟩
                   have q0 := (lateK_g hV).2.2.1; clear hV
                   go_simp
                  intro hCv11_7 hSv11_7
                  clear hCv11_6 hSv11_6
                  try simp only [Go.Act.put, List.setIfInBounds_toArray, List.set_cons_zero, List.set_cons_succ]
                  refine wpAnyS_take (i := 7) (oi := ?oiv11_8) (v := .int .i64 dx) ?hiv11_8 (by kernel_rfl) (by kernel_rfl) (by kernel_rfl) (lateK_iff (by rfl)) ?hqv11_8 ?hyv11_8 hCv11_7 hSv11_7 ?restv11_8
                  case hiv11_8 => simp only [List.getElem?_toArray, List.getElem?_cons_succ, List.getElem?_cons_zero, Option.some.injEq]; rfl
                  case hqv11_8 => exact fun _ _ _ h => h
                  case hyv11_8 =>
                   refine Or.inl ⟨by kernel_rfl, fun V hV => ?_⟩
                   clear hV
                   go_simp
                  intro hCv11_8 hSv11_8
                  clear hCv11_7 hSv11_7
                  try simp only [Go.Act.put, List.setIfInBounds_toArray, List.set_cons_zero, List.set_cons_succ]
                  refine wpAnyS_take (i := 9) (oi := ?oiv11_9) (v := .pointer (some ⟨bx, 1, none⟩)) ?hiv11_9 (by kernel_rfl) (by kernel_rfl) (by kernel_rfl) (lateK_iff (by rfl)) ?hqv11_9 ?hyv11_9 hCv11_8 hSv11_8 ?restv11_9
                  case hiv11_9 => simp only [List.getElem?_toArray, List.getElem?_cons_succ, List.getElem?_cons_zero, Option.some.injEq]; rfl
                  case hqv11_9 => exact fun _ _ _ h => h
                  case hyv11_9 =>
                   refine Or.inl ⟨by kernel_rfl, fun V hV => ?_⟩
                   clear hV
                   go_simp
                  intro hCv11_9 hSv11_9
                  clear hCv11_8 hSv11_8
                  try simp only [Go.Act.put, List.setIfInBounds_toArray, List.set_cons_zero, List.set_cons_succ]
                  refine wpAnyS_take (i := 10) (oi := ?oiv11_10) (v := .int .i64 py) ?hiv11_10 (by kernel_rfl) (by kernel_rfl) (by kernel_rfl) (lateK_iff (by rfl)) ?hqv11_10 ?hyv11_10 hCv11_9 hSv11_9 ?restv11_10
                  case hiv11_10 => simp only [List.getElem?_toArray, List.getElem?_cons_succ, List.getElem?_cons_zero, Option.some.injEq]; rfl
                  case hqv11_10 => exact fun _ _ _ h => h
                  case hyv11_10 =>
                   refine Or.inl ⟨by kernel_rfl, fun V hV => ?_⟩
                   have q0 := (lateK_g hV).2.1; clear hV
                   go_simp
                  intro hCv11_10 hSv11_10
                  clear hCv11_9 hSv11_9
                  try simp only [Go.Act.put, List.setIfInBounds_toArray, List.set_cons_zero, List.set_cons_succ]
                  refine wpAnyS_take (i := 11) (oi := ?oiv11_11) (v := .pointer (some ⟨wj.heap.size, 1, none⟩)) ?hiv11_11 (by kernel_rfl) (by kernel_rfl) (by kernel_rfl) (lateK_iff (by rfl)) ?hqv11_11 ?hyv11_11 hCv11_10 hSv11_10 ?restv11_11
                  case hiv11_11 => simp only [List.getElem?_toArray, List.getElem?_cons_succ, List.getElem?_cons_zero, Option.some.injEq]; rfl
                  case hqv11_11 => exact fun _ _ _ h => h
                  case hyv11_11 =>
                   refine Or.inl ⟨by kernel_rfl, fun V hV => ?_⟩
                   clear hV
                   go_simp
                  intro hCv11_11 hSv11_11
                  clear hCv11_10 hSv11_10
                  try simp only [Go.Act.put, List.setIfInBounds_toArray, List.set_cons_zero, List.set_cons_succ]
                  refine wpAnyS_take (i := 12) (oi := ?oiv11_12) (v := .int .i64 qy) ?hiv11_12 (by kernel_rfl) (by kernel_rfl) (by kernel_rfl) (lateK_iff (by rfl)) ?hqv11_12 ?hyv11_12 hCv11_11 hSv11_11 ?restv11_12
                  case hiv11_12 => simp only [List.getElem?_toArray, List.getElem?_cons_succ, List.getElem?_cons_zero, Option.some.injEq]; rfl
                  case hqv11_12 => exact fun _ _ _ h => h
                  case hyv11_12 =>
                   refine Or.inl ⟨by kernel_rfl, fun V hV => ?_⟩
                   have q0 := (lateK_g hV).2.2.2; clear hV
                   go_simp
                  intro hCv11_12 hSv11_12
                  clear hCv11_11 hSv11_11
                  try simp only [Go.Act.put, List.setIfInBounds_toArray, List.set_cons_zero, List.set_cons_succ]
                  refine wpAnyS_take (i := 13) (oi := ?oiv11_13) (v := .int .i64 dy) ?hiv11_13 (by kernel_rfl) (by kernel_rfl) (by kernel_rfl) (lateK_iff (by rfl)) ?hqv11_13 ?hyv11_13 hCv11_12 hSv11_12 ?restv11_13
                  case hiv11_13 => simp only [List.getElem?_toArray, List.getElem?_cons_succ, List.getElem?_cons_zero, Option.some.injEq]; rfl
                  case hqv11_13 => exact fun _ _ _ h => h
                  case hyv11_13 =>
                   refine Or.inl ⟨by kernel_rfl, fun V hV => ?_⟩
                   clear hV
                   go_simp
                  intro hCv11_13 hSv11_13
                  clear hCv11_12 hSv11_12
                  try simp only [Go.Act.put, List.setIfInBounds_toArray, List.set_cons_zero, List.set_cons_succ]
                  refine wpAnyS_ready (rs := [8]) (by kernel_rfl) (by simp) ?_
                  refine AllReadyS.cons rfl hCv11_13 (fun K hK => ?_) AllReadyS.nil
                  go_simp
                  refine (mrsquare_is dx DX.out.1 DX.out.2 _ HX).mono ?_; rintro e w1 ⟨rfl, rfl⟩
                  refine hK.out _ _ hG0 (fun hCv11_14 hSv11_14 => ?_)
                  clear hK hCv11_13 hSv11_13 K
                  try simp only [Go.Act.put, List.setIfInBounds_toArray, List.set_cons_zero, List.set_cons_succ]
                  refine wpAnyS_ready (rs := [14]) (by kernel_rfl) (by simp) ?_
                  refine AllReadyS.cons rfl hCv11_14 (fun K hK => ?_) AllReadyS.nil
                  go_simp
                  refine (mrsquare_is dy DY.out.1 DY.out.2 _ HY).mono ?_; rintro e w1 ⟨rfl, rfl⟩
                  refine hK.out _ _ hG0 (fun hCv11_15 hSv11_15 => ?_)
                  clear hK hCv11_14 hSv11_14 K
                  try simp only [Go.Act.put, List.setIfInBounds_toArray, List.set_cons_zero, List.set_cons_succ]
                  refine wpAnyS_take (i := 15) (oi := ?oiv11_16) (v := .int .i64 n) ?hiv11_16 (by kernel_rfl) (by kernel_rfl) (by kernel_rfl) (lateK_iff (by rfl)) ?hqv11_16 ?hyv11_16 hCv11_15 hSv11_15 ?restv11_16
                  case hiv11_16 => simp only [List.getElem?_toArray, List.getElem?_cons_succ, List.getElem?_cons_zero, Option.some.injEq]; rfl
                  case hqv11_16 => exact fun _ _ _ h => h
                  case hyv11_16 =>
                   refine Or.inl ⟨by kernel_rfl, fun V hV => ?_⟩
                   clear hV
                   go_simp
                  intro hCv11_16 hSv11_16
                  clear hCv11_15 hSv11_15
                  try simp only [Go.Act.put, List.setIfInBounds_toArray, List.set_cons_zero, List.set_cons_succ]
                  refine wpAnyS_take (i := 16) (oi := ?oiv11_17) (v := .int .i64 n) ?hiv11_17 (by kernel_rfl) (by kernel_rfl) (by kernel_rfl) (lateK_iff (by rfl)) ?hqv11_17 ?hyv11_17 hCv11_16 hSv11_16 ?restv11_17
                  case hiv11_17 => simp only [List.getElem?_toArray, List.getElem?_cons_succ, List.getElem?_cons_zero, Option.some.injEq]; rfl
                  case hqv11_17 => exact fun _ _ _ h => h
                  case hyv11_17 =>
                   refine Or.inl ⟨by kernel_rfl, fun V hV => ?_⟩
                   clear hV
                   go_simp
                  intro hCv11_17 hSv11_17
                  clear hCv11_16 hSv11_16
                  try simp only [Go.Act.put, List.setIfInBounds_toArray, List.set_cons_zero, List.set_cons_succ]
                  refine wpAnyS_take (i := 17) (oi := ?oiv11_18) (v := .pointer (some ⟨g1, j, none⟩)) ?hiv11_18 (by kernel_rfl) (by kernel_rfl) (by kernel_rfl) (lateK_iff (by rfl)) ?hqv11_18 ?hyv11_18 hCv11_17 hSv11_17 ?restv11_18
                  case hiv11_18 => simp only [List.getElem?_toArray, List.getElem?_cons_succ, List.getElem?_cons_zero, Option.some.injEq]; rfl
                  case hqv11_18 => exact fun _ _ _ h => h
                  case hyv11_18 =>
                   refine Or.inl ⟨by kernel_rfl, fun V hV => ?_⟩
                   clear hV
                   go_simp
                  intro hCv11_18 hSv11_18
                  clear hCv11_17 hSv11_17
                  try simp only [Go.Act.put, List.setIfInBounds_toArray, List.set_cons_zero, List.set_cons_succ]
                  refine wpAnyS_ready (rs := [18]) (by kernel_rfl) (by simp) ?_
                  refine AllReadyS.cons rfl hCv11_18 (fun K hK => ?_) AllReadyS.nil
                  go_simp
                  refine hK.out _ _ ⟨(World.cell?_setCell_other _ _ _ _ N4.out.1.symm).trans hG0.1, (World.cell?_setCell_other _ _ _ _ N4.out.2.1.symm).trans hG0.2.1, (World.cell?_setCell_other _ _ _ _ N4.out.2.2.1.symm).trans hG0.2.2.1, (World.cell?_setCell_other _ _ _ _ N4.out.2.2.2.symm).trans hG0.2.2.2⟩ (fun hCv11_19 hSv11_19 => ?_)
                  clear hK hCv11_18 hSv11_18 K
                  try simp only [Go.Act.put, List.setIfInBounds_toArray, List.set_cons_zero, List.set_cons_succ]
                  refine wpAnyS_done (by kernel_rfl) ?_ _
                  clear hCv11_19 hSv11_19
                  have hd : frD (sqL a b) k j = n := by
                   have hp := HPJ.out
                   have ho := HOJ.out
                   have hc := HC.out
                   have hr := HDR.out
                   unfold frO at ho hc
                   have hc2 := hc (by omega)
                   rw [HK0.out] at *
                   rw [HJ0.out] at *
                   rw [if_neg (by omega), Nat.add_sub_cancel] at ho
                   rw [if_neg (by omega), Nat.add_sub_cancel, Nat.add_sub_cancel] at hc2
                   simp only [frD, mn3]
                   rw [hr, hp, ho, ← hc2]
                   omega
                  have HD2 := Lib.hid hd
                  have HG4 := Lib.hid (mgrown_set GQ.out LG.out j (.int .i64 n))
                  have HR4 : Hid (RowAt (wq.setCell ⟨g1, j, none⟩ (.int .i64 n)) g1 b.length (frM (sqL a b) k (j + 1))) := by
                   have q := HRQ.out.set j n
                   have e := frM_set (sqL a b) k j
                   rw [HD2.out] at e
                   rw [e] at q; exact q
                  have HB4 : Hid ((wq.setCell ⟨g1, j, none⟩ (.int .i64 n)).heap[bx]? = some (.cells #[.int .i64 px, .int .i64 py] 64 (0, 0))) := by
                   show _ = _
                   rw [Below.heap_setCell _ _ _ _ (by show bx ≠ g1; exact fun e => NG.out e.symm)]; exact BXQ.out
                  have HC4 : Hid (0 < j + 1 → oj = frO (sqL a b) k (j + 1 - 1)) := fun _ => by rw [Nat.add_sub_cancel]; exact HOJ.out.symm
                  clear hd hG0 frq crq
                  go_wp2_with fail
                  go_roundw
                  case rel => exact ⟨j + 1, oj, HJL.out, by go_num, rfl, HC4.out, HG4.out, HR4.out, HB4.out⟩
                  case measure => have := HJL.out; simp [intOf]; omega
                 ·
                  go_upto_region 33 with (fail)
                  have bq : (wj.alloc (.cells #[.int .i64 qx, .int .i64 qy] 64)).drew.heap[wj.heap.size]? = some (.cells #[.int .i64 qx, .int .i64 qy] 64 (0, 0)) := mheap_new wj _
                  have gq : wj.grownBy (wj.alloc (.cells #[.int .i64 qx, .int .i64 qy] 64)).drew none := grown_trans (World.grownBy_alloc _ _ _) (grown_drewN _ _ 1)
                  have bxq := mblock_at HBX.out gq (by simp)
                  have HRQ := Lib.hid (HR.out.grown gq)
                  have frq := HRQ.out.free j
                  have crq := HRQ.out.cell (k := j) HJL.out
                  have NJ : Hid (g1 ≠ wj.heap.size) := fun e => by have := lt_of_block (show wj.heap[g1]? = _ from HR.out); omega
                  have hG0 : (fun V => V.cell? ⟨bx, 0, none⟩ = some (.int .i64 px) ∧ V.cell? ⟨bx, 1, none⟩ = some (.int .i64 py) ∧ V.cell? ⟨wj.heap.size, 0, none⟩ = some (.int .i64 qx) ∧ V.cell? ⟨wj.heap.size, 1, none⟩ = some (.int .i64 qy)) (wj.alloc (.cells #[.int .i64 qx, .int .i64 qy] 64)).drew := ⟨mblock_cell bxq 0 _ rfl, mblock_cell bxq 1 _ rfl, mblock_cell bq 0 _ rfl, mblock_cell bq 1 _ rfl⟩
                  have BXQ := Lib.hid bxq
                  have GQ := Lib.hid (grown_trans HGJ.out gq)
                  clear xb0 xb1 cr0 cr bq bxq y0 y1 gq
                  have n1 : (⟨bx, 0, none⟩ : Addr) ≠ ⟨g1, j, none⟩ := fun e => NG.out (congrArg Addr.block e).symm
                  have n2 : (⟨bx, 1, none⟩ : Addr) ≠ ⟨g1, j, none⟩ := fun e => NG.out (congrArg Addr.block e).symm
                  have n3 : (⟨wj.heap.size, 0, none⟩ : Addr) ≠ ⟨g1, j, none⟩ := fun e => NJ.out (congrArg Addr.block e).symm
                  have n4 : (⟨wj.heap.size, 1, none⟩ : Addr) ≠ ⟨g1, j, none⟩ := fun e => NJ.out (congrArg Addr.block e).symm
                  have N4 := Lib.hid (And.intro n1 (And.intro n2 (And.intro n3 n4)))
                  clear n1 n2 n3 n4
                  refine region_late (lateK (fun V => V.cell? ⟨bx, 0, none⟩ = some (.int .i64 px) ∧ V.cell? ⟨bx, 1, none⟩ = some (.int .i64 py) ∧ V.cell? ⟨wj.heap.size, 0, none⟩ = some (.int .i64 qx) ∧ V.cell? ⟨wj.heap.size, 1, none⟩ = some (.int .i64 qy)) []) (by kernel_rfl) hG0 (fun hCv12_0 hSv12_0 => ?_)
                  generalize (wj.alloc (.cells #[.int .i64 qx, .int .i64 qy] 64)).drew = wq at *
                  refine wpAnyS_take (i := 0) (oi := ?oiv12_1) (v := .slice (some ⟨g1, 0, none⟩) b.length b.length) ?hiv12_1 (by kernel_rfl) (by kernel_rfl) (by kernel_rfl) (lateK_iff (by rfl)) ?hqv12_1 ?hyv12_1 hCv12_0 hSv12_0 ?restv12_1
                  case hiv12_1 => simp only [List.getElem?_toArray, List.getElem?_cons_succ, List.getElem?_cons_zero, Option.some.injEq]; rfl
                  case hqv12_1 => exact fun _ _ _ h => h
                  case hyv12_1 =>
                   refine Or.inl ⟨by kernel_rfl, fun V hV => ?_⟩
                   clear hV
                   go_simp
                  intro hCv12_1 hSv12_1
                  clear hCv12_0 hSv12_0
                  try simp only [Go.Act.put, List.setIfInBounds_toArray, List.set_cons_zero, List.set_cons_succ]
                  refine wpAnyS_take (i := 1) (oi := ?oiv12_2) (v := .int .i64 (j : Int)) ?hiv12_2 (by kernel_rfl) (by kernel_rfl) (by kernel_rfl) (lateK_iff (by rfl)) ?hqv12_2 ?hyv12_2 hCv12_1 hSv12_1 ?restv12_2
                  case hiv12_2 => simp only [List.getElem?_toArray, List.getElem?_cons_succ, List.getElem?_cons_zero, Option.some.injEq]; rfl
                  case hqv12_2 => exact fun _ _ _ h => h
                  case hyv12_2 =>
                   refine Or.inl ⟨by kernel_rfl, fun V hV => ?_⟩
                   clear hV
                   go_simp
                  intro hCv12_2 hSv12_2
                  clear hCv12_1 hSv12_1
                  try simp only [Go.Act.put, List.setIfInBounds_toArray, List.set_cons_zero, List.set_cons_succ]
                  refine wpAnyS_take (i := 2) (oi := ?oiv12_3) (v := .int .i64 c) ?hiv12_3 (by kernel_rfl) (by kernel_rfl) (by kernel_rfl) (lateK_iff (by rfl)) ?hqv12_3 ?hyv12_3 hCv12_2 hSv12_2 ?restv12_3
                  case hiv12_3 => simp only [List.getElem?_toArray, List.getElem?_cons_succ, List.getElem?_cons_zero, Option.some.injEq]; rfl
                  case hqv12_3 => exact fun _ _ _ h => h
                  case hyv12_3 =>
                   refine Or.inl ⟨by kernel_rfl, fun V hV => ?_⟩
                   clear hV
                   go_simp
                  intro hCv12_3 hSv12_3
                  clear hCv12_2 hSv12_2
                  try simp only [Go.Act.put, List.setIfInBounds_toArray, List.set_cons_zero, List.set_cons_succ]
                  refine wpAnyS_take (i := 3) (oi := ?oiv12_4) (v := .pointer (some ⟨bx, 0, none⟩)) ?hiv12_4 (by kernel_rfl) (by kernel_rfl) (by kernel_rfl) (lateK_iff (by rfl)) ?hqv12_4 ?hyv12_4 hCv12_3 hSv12_3 ?restv12_4
                  case hiv12_4 => simp only [List.getElem?_toArray, List.getElem?_cons_succ, List.getElem?_cons_zero, Option.some.injEq]; rfl
                  case hqv12_4 => exact fun _ _ _ h => h
                  case hyv12_4 =>
                   refine Or.inl ⟨by kernel_rfl, fun V hV => ?_⟩
                   clear hV
                   go_simp
                  intro hCv12_4 hSv12_4
                  clear hCv12_3 hSv12_3
                  try simp only [Go.Act.put, List.setIfInBounds_toArray, List.set_cons_zero, List.set_cons_succ]
                  refine wpAnyS_take (i := 4) (oi := ?oiv12_5) (v := .int .i64 px) ?hiv12_5 (by kernel_rfl) (by kernel_rfl) (by kernel_rfl) (lateK_iff (by rfl)) ?hqv12_5 ?hyv12_5 hCv12_4 hSv12_4 ?restv12_5
                  case hiv12_5 => simp only [List.getElem?_toArray, List.getElem?_cons_succ, List.getElem?_cons_zero, Option.some.injEq]; rfl
                  case hqv12_5 => exact fun _ _ _ h => h
                  case hyv12_5 =>
                   refine Or.inl ⟨by kernel_rfl, fun V hV => ?_⟩
                   have q0 := (lateK_g hV).1; clear hV
                   go_simp
                  intro hCv12_5 hSv12_5
                  clear hCv12_4 hSv12_4
                  try simp only [Go.Act.put, List.setIfInBounds_toArray, List.set_cons_zero, List.set_cons_succ]
                  refine wpAnyS_take (i := 5) (oi := ?oiv12_6) (v := .pointer (some ⟨wj.heap.size, 0, none⟩)) ?hiv12_6 (by kernel_rfl) (by kernel_rfl) (by kernel_rfl) (lateK_iff (by rfl)) ?hqv12_6 ?hyv12_6 hCv12_5 hSv12_5 ?restv12_6
                  case hiv12_6 => simp only [List.getElem?_toArray, List.getElem?_cons_succ, List.getElem?_cons_zero, Option.some.injEq]; rfl
                  case hqv12_6 => exact fun _ _ _ h => h
                  case hyv12_6 =>
                   refine Or.inl ⟨by kernel_rfl, fun V hV => ?_⟩
                   clear hV
                   go_simp
                  intro hCv12_6 hSv12_6
                  clear hCv12_5 hSv12_5
                  try simp only [Go.Act.put, List.setIfInBounds_toArray, List.set_cons_zero, List.set_cons_succ]
                  refine wpAnyS_take (i := 6) (oi := ?oiv12_7) (v := .int .i64 qx) ?hiv12_7 (by kernel_rfl) (by kernel_rfl) (by kernel_rfl) (lateK_iff (by rfl)) ?hqv12_7 ?hyv12_7 hCv12_6 hSv12_6 ?restv12_7
                  case hiv12_7 => simp only [List.getElem?_toArray, List.getElem?_cons_succ, List.getElem?_cons_zero, Option.some.injEq]; rfl
                  case hqv12_7 => exact fun _ _ _ h => h
                  case hyv12_7 =>
                   refine Or.inl ⟨by kernel_rfl, fun V hV => ?_⟩
                   have q0 := (lateK_g hV).2.2.1; clear hV
                   go_simp
                  intro hCv12_7 hSv12_7
                  clear hCv12_6 hSv12_6
                  try simp only [Go.Act.put, List.setIfInBounds_toArray, List.set_cons_zero, List.set_cons_succ]
                  refine wpAnyS_take (i := 7) (oi := ?oiv12_8) (v := .int .i64 dx) ?hiv12_8 (by kernel_rfl) (by kernel_rfl) (by kernel_rfl) (lateK_iff (by rfl)) ?hqv12_8 ?hyv12_8 hCv12_7 hSv12_7 ?restv12_8
                  case hiv12_8 => simp only [List.getElem?_toArray, List.getElem?_cons_succ, List.getElem?_cons_zero, Option.some.injEq]; rfl
                  case hqv12_8 => exact fun _ _ _ h => h
                  case hyv12_8 =>
                   refine Or.inl ⟨by kernel_rfl, fun V hV => ?_⟩
                   clear hV
                   go_simp
                  intro hCv12_8 hSv12_8
                  clear hCv12_7 hSv12_7
                  try simp only [Go.Act.put, List.setIfInBounds_toArray, List.set_cons_zero, List.set_cons_succ]
                  refine wpAnyS_take (i := 9) (oi := ?oiv12_9) (v := .pointer (some ⟨bx, 1, none⟩)) ?hiv12_9 (by kernel_rfl) (by kernel_rfl) (by kernel_rfl) (lateK_iff (by rfl)) ?hqv12_9 ?hyv12_9 hCv12_8 hSv12_8 ?restv12_9
                  case hiv12_9 => simp only [List.getElem?_toArray, List.getElem?_cons_succ, List.getElem?_cons_zero, Option.some.injEq]; rfl
                  case hqv12_9 => exact fun _ _ _ h => h
                  case hyv12_9 =>
                   refine Or.inl ⟨by kernel_rfl, fun V hV => ?_⟩
                   clear hV
                   go_simp
                  intro hCv12_9 hSv12_9
                  clear hCv12_8 hSv12_8
                  try simp only [Go.Act.put, List.setIfInBounds_toArray, List.set_cons_zero, List.set_cons_succ]
                  refine wpAnyS_take (i := 10) (oi := ?oiv12_10) (v := .int .i64 py) ?hiv12_10 (by kernel_rfl) (by kernel_rfl) (by kernel_rfl) (lateK_iff (by rfl)) ?hqv12_10 ?hyv12_10 hCv12_9 hSv12_9 ?restv12_10
                  case hiv12_10 => simp only [List.getElem?_toArray, List.getElem?_cons_succ, List.getElem?_cons_zero, Option.some.injEq]; rfl
                  case hqv12_10 => exact fun _ _ _ h => h
                  case hyv12_10 =>
                   refine Or.inl ⟨by kernel_rfl, fun V hV => ?_⟩
                   have q0 := (lateK_g hV).2.1; clear hV
                   go_simp
                  intro hCv12_10 hSv12_10
                  clear hCv12_9 hSv12_9
                  try simp only [Go.Act.put, List.setIfInBounds_toArray, List.set_cons_zero, List.set_cons_succ]
                  refine wpAnyS_take (i := 11) (oi := ?oiv12_11) (v := .pointer (some ⟨wj.heap.size, 1, none⟩)) ?hiv12_11 (by kernel_rfl) (by kernel_rfl) (by kernel_rfl) (lateK_iff (by rfl)) ?hqv12_11 ?hyv12_11 hCv12_10 hSv12_10 ?restv12_11
                  case hiv12_11 => simp only [List.getElem?_toArray, List.getElem?_cons_succ, List.getElem?_cons_zero, Option.some.injEq]; rfl
                  case hqv12_11 => exact fun _ _ _ h => h
                  case hyv12_11 =>
                   refine Or.inl ⟨by kernel_rfl, fun V hV => ?_⟩
                   clear hV
                   go_simp
                  intro hCv12_11 hSv12_11
                  clear hCv12_10 hSv12_10
                  try simp only [Go.Act.put, List.setIfInBounds_toArray, List.set_cons_zero, List.set_cons_succ]
                  refine wpAnyS_take (i := 12) (oi := ?oiv12_12) (v := .int .i64 qy) ?hiv12_12 (by kernel_rfl) (by kernel_rfl) (by kernel_rfl) (lateK_iff (by rfl)) ?hqv12_12 ?hyv12_12 hCv12_11 hSv12_11 ?restv12_12
                  case hiv12_12 => simp only [List.getElem?_toArray, List.getElem?_cons_succ, List.getElem?_cons_zero, Option.some.injEq]; rfl
                  case hqv12_12 => exact fun _ _ _ h => h
                  case hyv12_12 =>
                   refine Or.inl ⟨by kernel_rfl, fun V hV => ?_⟩
                   have q0 := (lateK_g hV).2.2.2; clear hV
                   go_simp
                  intro hCv12_12 hSv12_12
                  clear hCv12_11 hSv12_11
                  try simp only [Go.Act.put, List.setIfInBounds_toArray, List.set_cons_zero, List.set_cons_succ]
                  refine wpAnyS_take (i := 13) (oi := ?oiv12_13) (v := .int .i64 dy) ?hiv12_13 (by kernel_rfl) (by kernel_rfl) (by kernel_rfl) (lateK_iff (by rfl)) ?hqv12_13 ?hyv12_13 hCv12_12 hSv12_12 ?restv12_13
                  case hiv12_13 => simp only [List.getElem?_toArray, List.getElem?_cons_succ, List.getElem?_cons_zero, Option.some.injEq]; rfl
                  case hqv12_13 => exact fun _ _ _ h => h
                  case hyv12_13 =>
                   refine Or.inl ⟨by kernel_rfl, fun V hV => ?_⟩
                   clear hV
                   go_simp
                  intro hCv12_13 hSv12_13
                  clear hCv12_12 hSv12_12
                  try simp only [Go.Act.put, List.setIfInBounds_toArray, List.set_cons_zero, List.set_cons_succ]
                  refine wpAnyS_ready (rs := [8]) (by kernel_rfl) (by simp) ?_
                  refine AllReadyS.cons rfl hCv12_13 (fun K hK => ?_) AllReadyS.nil
                  go_simp
                  refine (mrsquare_is dx DX.out.1 DX.out.2 _ HX).mono ?_; rintro e w1 ⟨rfl, rfl⟩
                  refine hK.out _ _ hG0 (fun hCv12_14 hSv12_14 => ?_)
                  clear hK hCv12_13 hSv12_13 K
                  try simp only [Go.Act.put, List.setIfInBounds_toArray, List.set_cons_zero, List.set_cons_succ]
                  refine wpAnyS_ready (rs := [14]) (by kernel_rfl) (by simp) ?_
                  refine AllReadyS.cons rfl hCv12_14 (fun K hK => ?_) AllReadyS.nil
                  go_simp
                  refine (mrsquare_is dy DY.out.1 DY.out.2 _ HY).mono ?_; rintro e w1 ⟨rfl, rfl⟩
                  refine hK.out _ _ hG0 (fun hCv12_15 hSv12_15 => ?_)
                  clear hK hCv12_14 hSv12_14 K
                  try simp only [Go.Act.put, List.setIfInBounds_toArray, List.set_cons_zero, List.set_cons_succ]
                  refine wpAnyS_take (i := 15) (oi := ?oiv12_16) (v := .int .i64 n) ?hiv12_16 (by kernel_rfl) (by kernel_rfl) (by kernel_rfl) (lateK_iff (by rfl)) ?hqv12_16 ?hyv12_16 hCv12_15 hSv12_15 ?restv12_16
                  case hiv12_16 => simp only [List.getElem?_toArray, List.getElem?_cons_succ, List.getElem?_cons_zero, Option.some.injEq]; rfl
                  case hqv12_16 => exact fun _ _ _ h => h
                  case hyv12_16 =>
                   refine Or.inl ⟨by kernel_rfl, fun V hV => ?_⟩
                   clear hV
                   go_simp
                  intro hCv12_16 hSv12_16
                  clear hCv12_15 hSv12_15
                  try simp only [Go.Act.put, List.setIfInBounds_toArray, List.set_cons_zero, List.set_cons_succ]
                  refine wpAnyS_take (i := 16) (oi := ?oiv12_17) (v := .int .i64 c) ?hiv12_17 (by kernel_rfl) (by kernel_rfl) (by kernel_rfl) (lateK_iff (by rfl)) ?hqv12_17 ?hyv12_17 hCv12_16 hSv12_16 ?restv12_17
                  case hiv12_17 => simp only [List.getElem?_toArray, List.getElem?_cons_succ, List.getElem?_cons_zero, Option.some.injEq]; rfl
                  case hqv12_17 => exact fun _ _ _ h => h
                  case hyv12_17 =>
                   refine Or.inl ⟨by kernel_rfl, fun V hV => ?_⟩
                   clear hV
                   go_simp
                  intro hCv12_17 hSv12_17
                  clear hCv12_16 hSv12_16
                  try simp only [Go.Act.put, List.setIfInBounds_toArray, List.set_cons_zero, List.set_cons_succ]
                  refine wpAnyS_take (i := 17) (oi := ?oiv12_18) (v := .pointer (some ⟨g1, j, none⟩)) ?hiv12_18 (by kernel_rfl) (by kernel_rfl) (by kernel_rfl) (lateK_iff (by rfl)) ?hqv12_18 ?hyv12_18 hCv12_17 hSv12_17 ?restv12_18
                  case hiv12_18 => simp only [List.getElem?_toArray, List.getElem?_cons_succ, List.getElem?_cons_zero, Option.some.injEq]; rfl
                  case hqv12_18 => exact fun _ _ _ h => h
                  case hyv12_18 =>
                   refine Or.inl ⟨by kernel_rfl, fun V hV => ?_⟩
                   clear hV
                   go_simp
                  intro hCv12_18 hSv12_18
                  clear hCv12_17 hSv12_17
                  try simp only [Go.Act.put, List.setIfInBounds_toArray, List.set_cons_zero, List.set_cons_succ]
                  refine wpAnyS_ready (rs := [18]) (by kernel_rfl) (by simp) ?_
                  refine AllReadyS.cons rfl hCv12_18 (fun K hK => ?_) AllReadyS.nil
                  go_simp
                  refine hK.out _ _ ⟨(World.cell?_setCell_other _ _ _ _ N4.out.1.symm).trans hG0.1, (World.cell?_setCell_other _ _ _ _ N4.out.2.1.symm).trans hG0.2.1, (World.cell?_setCell_other _ _ _ _ N4.out.2.2.1.symm).trans hG0.2.2.1, (World.cell?_setCell_other _ _ _ _ N4.out.2.2.2.symm).trans hG0.2.2.2⟩ (fun hCv12_19 hSv12_19 => ?_)
                  clear hK hCv12_18 hSv12_18 K
                  try simp only [Go.Act.put, List.setIfInBounds_toArray, List.set_cons_zero, List.set_cons_succ]
                  refine wpAnyS_done (by kernel_rfl) ?_ _
                  clear hCv12_19 hSv12_19
                  have hd : frD (sqL a b) k j = c := by
                   have hp := HPJ.out
                   have ho := HOJ.out
                   have hc := HC.out
                   have hr := HDR.out
                   unfold frO at ho hc
                   have hc2 := hc (by omega)
                   rw [HK0.out] at *
                   rw [HJ0.out] at *
                   rw [if_neg (by omega), Nat.add_sub_cancel] at ho
                   rw [if_neg (by omega), Nat.add_sub_cancel, Nat.add_sub_cancel] at hc2
                   simp only [frD, mn3]
                   rw [hr, hp, ho, ← hc2]
                   omega
                  have HD2 := Lib.hid hd
                  have HG4 := Lib.hid (mgrown_set GQ.out LG.out j (.int .i64 c))
                  have HR4 : Hid (RowAt (wq.setCell ⟨g1, j, none⟩ (.int .i64 c)) g1 b.length (frM (sqL a b) k (j + 1))) := by
                   have q := HRQ.out.set j c
                   have e := frM_set (sqL a b) k j
                   rw [HD2.out] at e
                   rw [e] at q; exact q
                  have HB4 : Hid ((wq.setCell ⟨g1, j, none⟩ (.int .i64 c)).heap[bx]? = some (.cells #[.int .i64 px, .int .i64 py] 64 (0, 0))) := by
                   show _ = _
                   rw [Below.heap_setCell _ _ _ _ (by show bx ≠ g1; exact fun e => NG.out e.symm)]; exact BXQ.out
                  have HC4 : Hid (0 < j + 1 → oj = frO (sqL a b) k (j + 1 - 1)) := fun _ => by rw [Nat.add_sub_cancel]; exact HOJ.out.symm
                  clear hd hG0 frq crq
                  go_wp2_with fail
                  go_roundw
                  case rel => exact ⟨j + 1, oj, HJL.out, by go_num, rfl, HC4.out, HG4.out, HR4.out, HB4.out⟩
                  case measure => have := HJL.out; simp [intOf]; omega
                ·
                 rcases (by omega : oj < n ∨ ¬ oj < n) with hm | hm
                 ·
                  go_upto_region 33 with (fail)
                  have bq : (wj.alloc (.cells #[.int .i64 qx, .int .i64 qy] 64)).drew.heap[wj.heap.size]? = some (.cells #[.int .i64 qx, .int .i64 qy] 64 (0, 0)) := mheap_new wj _
                  have gq : wj.grownBy (wj.alloc (.cells #[.int .i64 qx, .int .i64 qy] 64)).drew none := grown_trans (World.grownBy_alloc _ _ _) (grown_drewN _ _ 1)
                  have bxq := mblock_at HBX.out gq (by simp)
                  have HRQ := Lib.hid (HR.out.grown gq)
                  have frq := HRQ.out.free j
                  have crq := HRQ.out.cell (k := j) HJL.out
                  have NJ : Hid (g1 ≠ wj.heap.size) := fun e => by have := lt_of_block (show wj.heap[g1]? = _ from HR.out); omega
                  have hG0 : (fun V => V.cell? ⟨bx, 0, none⟩ = some (.int .i64 px) ∧ V.cell? ⟨bx, 1, none⟩ = some (.int .i64 py) ∧ V.cell? ⟨wj.heap.size, 0, none⟩ = some (.int .i64 qx) ∧ V.cell? ⟨wj.heap.size, 1, none⟩ = some (.int .i64 qy)) (wj.alloc (.cells #[.int .i64 qx, .int .i64 qy] 64)).drew := ⟨mblock_cell bxq 0 _ rfl, mblock_cell bxq 1 _ rfl, mblock_cell bq 0 _ rfl, mblock_cell bq 1 _ rfl⟩
                  have BXQ := Lib.hid bxq
                  have GQ := Lib.hid (grown_trans HGJ.out gq)
                  clear xb0 xb1 cr0 cr bq bxq y0 y1 gq
                  have n1 : (⟨bx, 0, none⟩ : Addr) ≠ ⟨g1, j, none⟩ := fun e => NG.out (congrArg Addr.block e).symm
                  have n2 : (⟨bx, 1, none⟩ : Addr) ≠ ⟨g1, j, none⟩ := fun e => NG.out (congrArg Addr.block e).symm
                  have n3 : (⟨wj.heap.size, 0, none⟩ : Addr) ≠ ⟨g1, j, none⟩ := fun e => NJ.out (congrArg Addr.block e).symm
                  have n4 : (⟨wj.heap.size, 1, none⟩ : Addr) ≠ ⟨g1, j, none⟩ := fun e => NJ.out (congrArg Addr.block e).symm
                  have N4 := Lib.hid (And.intro n1 (And.intro n2 (And.intro n3 n4)))
                  clear n1 n2 n3 n4
                  refine region_late (lateK (fun V => V.cell? ⟨bx, 0, none⟩ = some (.int .i64 px) ∧ V.cell? ⟨bx, 1, none⟩ = some (.int .i64 py) ∧ V.cell? ⟨wj.heap.size, 0, none⟩ = some (.int .i64 qx) ∧ V.cell? ⟨wj.heap.size, 1, none⟩ = some (.int .i64 qy)) []) (by kernel_rfl) hG0 (fun hCv13_0 hSv13_0 => ?_)
                  generalize (wj.alloc (.cells #[.int .i64 qx, .int .i64 qy] 64)).drew = wq at *
                  refine wpAnyS_take (i := 0) (oi := ?oiv13_1) (v := .slice (some ⟨g1, 0, none⟩) b.length b.length) ?hiv13_1 (by kernel_rfl) (by kernel_rfl) (by kernel_rfl) (lateK_iff (by rfl)) ?hqv13_1 ?hyv13_1 hCv13_0 hSv13_0 ?restv13_1
                  case hiv13_1 => simp only [List.getElem?_toArray, List.getElem?_cons_succ, List.getElem?_cons_zero, Option.some.injEq]; rfl
                  case hqv13_1 => exact fun _ _ _ h => h
                  case hyv13_1 =>
                   refine Or.inl ⟨by kernel_rfl, fun V hV => ?_⟩
                   clear hV
                   go_simp
                  intro hCv13_1 hSv13_1
                  clear hCv13_0 hSv13_0
                  try simp only [Go.Act.put, List.setIfInBounds_toArray, List.set_cons_zero, List.set_cons_succ]
                  refine wpAnyS_take (i := 1) (oi := ?oiv13_2) (v := .int .i64 (j : Int)) ?hiv13_2 (by kernel_rfl) (by kernel_rfl) (by kernel_rfl) (lateK_iff (by rfl)) ?hqv13_2 ?hyv13_2 hCv13_1 hSv13_1 ?restv13_2
                  case hiv13_2 => simp only [List.getElem?_toArray, List.getElem?_cons_succ, List.getElem?_cons_zero, Option.some.injEq]; rfl
                  case hqv13_2 => exact fun _ _ _ h => h
                  case hyv13_2 =>
                   refine Or.inl ⟨by kernel_rfl, fun V hV => ?_⟩
                   clear hV
                   go_simp
                  intro hCv13_2 hSv13_2
                  clear hCv13_1 hSv13_1
                  try simp only [Go.Act.put, List.setIfInBounds_toArray, List.set_cons_zero, List.set_cons_succ]
                  refine wpAnyS_take (i := 2) (oi := ?oiv13_3) (v := .int .i64 oj) ?hiv13_3 (by kernel_rfl) (by kernel_rfl) (by kernel_rfl) (lateK_iff (by rfl)) ?hqv13_3 ?hyv13_3 hCv13_2 hSv13_2 ?restv13_3
                  case hiv13_3 => simp only [List.getElem?_toArray, List.getElem?_cons_succ, List.getElem?_cons_zero, Option.some.injEq]; rfl
                  case hqv13_3 => exact fun _ _ _ h => h
                  case hyv13_3 =>
                   refine Or.inl ⟨by kernel_rfl, fun V hV => ?_⟩
                   clear hV
                   go_simp
                  intro hCv13_3 hSv13_3
                  clear hCv13_2 hSv13_2
                  try simp only [Go.Act.put, List.setIfInBounds_toArray, List.set_cons_zero, List.set_cons_succ]
                  refine wpAnyS_take (i := 3) (oi := ?oiv13_4) (v := .pointer (some ⟨bx, 0, none⟩)) ?hiv13_4 (by kernel_rfl) (by kernel_rfl) (by kernel_rfl) (lateK_iff (by rfl)) ?hqv13_4 ?hyv13_4 hCv13_3 hSv13_3 ?restv13_4
                  case hiv13_4 => simp only [List.getElem?_toArray, List.getElem?_cons_succ, List.getElem?_cons_zero, Option.some.injEq]; rfl
                  case hqv13_4 => exact fun _ _ _ h => h
                  case hyv13_4 =>
                   refine Or.inl ⟨by kernel_rfl, fun V hV => ?_⟩
                   clear hV
                   go_simp
                  intro hCv13_4 hSv13_4
                  clear hCv13_3 hSv13_3
                  try simp only [Go.Act.put, List.setIfInBounds_toArray, List.set_cons_zero, List.set_cons_succ]
                  refine wpAnyS_take (i := 4) (oi := ?oiv13_5) (v := .int .i64 px) ?hiv13_5 (by kernel_rfl) (by kernel_rfl) (by kernel_rfl) (lateK_iff (by rfl)) ?hqv13_5 ?hyv13_5 hCv13_4 hSv13_4 ?restv13_5
                  case hiv13_5 => simp only [List.getElem?_toArray, List.getElem?_cons_succ, List.getElem?_cons_zero, Option.some.injEq]; rfl
                  case hqv13_5 => exact fun _ _ _ h => h
                  case hyv13_5 =>
                   refine Or.inl ⟨by kernel_rfl, fun V hV => ?_⟩
                   have q0 := (lateK_g hV).1; clear hV
                   go_simp
                  intro hCv13_5 hSv13_5
                  clear hCv13_4 hSv13_4
                  try simp only [Go.Act.put, List.setIfInBounds_toArray, List.set_cons_zero, List.set_cons_succ]
                  refine wpAnyS_take (i := 5) (oi := ?oiv13_6) (v := .pointer (some ⟨wj.heap.size, 0, none⟩)) ?hiv13_6 (by kernel_rfl) (by kernel_rfl) (by kernel_rfl) (lateK_iff (by rfl)) ?hqv13_6 ?hyv13_6 hCv13_5 hSv13_5 ?restv13_6
                  case hiv13_6 => simp only [List.getElem?_toArray, List.getElem?_cons_succ, List.getElem?_cons_zero, Option.some.injEq]; rfl
                  case hqv13_6 => exact fun _ _ _ h => h
                  case hyv13_6 =>
                   refine Or.inl ⟨by kernel_rfl, fun V hV => ?_⟩
                   clear hV
                   go_simp
                  intro hCv13_6 hSv13_6
                  clear hCv13_5 hSv13_5
                  try simp only [Go.Act.put, List.setIfInBounds_toArray, List.set_cons_zero, List.set_cons_succ]
                  refine wpAnyS_take (i := 6) (oi := ?oiv13_7) (v := .int .i64 qx) ?hiv13_7 (by kernel_rfl) (by kernel_rfl) (by kernel_rfl) (lateK_iff (by rfl)) ?hqv13_7 ?hyv13_7 hCv13_6 hSv13_6 ?restv13_7
                  case hiv13_7 => simp only [List.getElem?_toArray, List.getElem?_cons_succ, List.getElem?_cons_zero, Option.some.injEq]; rfl
                  case hqv13_7 => exact fun _ _ _ h => h
                  case hyv13_7 =>
                   refine Or.inl ⟨by kernel_rfl, fun V hV => ?_⟩
                   have q0 := (lateK_g hV).2.2.1; clear hV
                   go_simp
                  intro hCv13_7 hSv13_7
                  clear hCv13_6 hSv13_6
                  try simp only [Go.Act.put, List.setIfInBounds_toArray, List.set_cons_zero, List.set_cons_succ]
                  refine wpAnyS_take (i := 7) (oi := ?oiv13_8) (v := .int .i64 dx) ?hiv13_8 (by kernel_rfl) (by kernel_rfl) (by kernel_rfl) (lateK_iff (by rfl)) ?hqv13_8 ?hyv13_8 hCv13_7 hSv13_7 ?restv13_8
                  case hiv13_8 => simp only [List.getElem?_toArray, List.getElem?_cons_succ, List.getElem?_cons_zero, Option.some.injEq]; rfl
                  case hqv13_8 => exact fun _ _ _ h => h
                  case hyv13_8 =>
                   refine Or.inl ⟨by kernel_rfl, fun V hV => ?_⟩
                   clear hV
                   go_simp
                  intro hCv13_8 hSv13_8
                  clear hCv13_7 hSv13_7
                  try simp only [Go.Act.put, List.setIfInBounds_toArray, List.set_cons_zero, List.set_cons_succ]
                  refine wpAnyS_take (i := 9) (oi := ?oiv13_9) (v := .pointer (some ⟨bx, 1, none⟩)) ?hiv13_9 (by kernel_rfl) (by kernel_rfl) (by kernel_rfl) (lateK_iff (by rfl)) ?hqv13_9 ?hyv13_9 hCv13_8 hSv13_8 ?restv13_9
                  case hiv13_9 => simp only [List.getElem?_toArray, List.getElem?_cons_succ, List.getElem?_cons_zero, Option.some.injEq]; rfl
                  case hqv13_9 => exact fun _ _ _ h => h
                  case hyv13_9 =>
                   refine Or.inl ⟨by kernel_rfl, fun V hV => ?_⟩
                   clear hV
                   go_simp
                  intro hCv13_9 hSv13_9
                  clear hCv13_8 hSv13_8
                  try simp only [Go.Act.put, List.setIfInBounds_toArray, List.set_cons_zero, List.set_cons_succ]
                  refine wpAnyS_take (i := 10) (oi := ?oiv13_10) (v := .int .i64 py) ?hiv13_10 (by kernel_rfl) (by kernel_rfl) (by kernel_rfl) (lateK_iff (by rfl)) ?hqv13_10 ?hyv13_10 hCv13_9 hSv13_9 ?restv13_10
                  case hiv13_10 => simp only [List.getElem?_toArray, List.getElem?_cons_succ, List.getElem?_cons_zero, Option.some.injEq]; rfl
                  case hqv13_10 => exact fun _ _ _ h => h
                  case hyv13_10 =>
                   refine Or.inl ⟨by kernel_rfl, fun V hV => ?_⟩
                   have q0 := (lateK_g hV).2.1; clear hV
                   go_simp
                  intro hCv13_10 hSv13_10
                  clear hCv13_9 hSv13_9
                  try simp only [Go.Act.put, List.setIfInBounds_toArray, List.set_cons_zero, List.set_cons_succ]
                  refine wpAnyS_take (i := 11) (oi := ?oiv13_11) (v := .pointer (some ⟨wj.heap.size, 1, none⟩)) ?hiv13_11 (by kernel_rfl) (by kernel_rfl) (by kernel_rfl) (lateK_iff (by rfl)) ?hqv13_11 ?hyv13_11 hCv13_10 hSv13_10 ?restv13_11
                  case hiv13_11 => simp only [List.getElem?_toArray, List.getElem?_cons_succ, List.getElem?_cons_zero, Option.some.injEq]; rfl
                  case hqv13_11 => exact fun _ _ _ h => h
                  case hyv13_11 =>
                   refine Or.inl ⟨by kernel_rfl, fun V hV => ?_⟩
                   clear hV
                   go_simp
                  intro hCv13_11 hSv13_11
                  clear hCv13_10 hSv13_10
                  try simp only [Go.Act.put, List.setIfInBounds_toArray, List.set_cons_zero, List.set_cons_succ]
                  refine wpAnyS_take (i := 12) (oi := ?oiv13_12) (v := .int .i64 qy) ?hiv13_12 (by kernel_rfl) (by kernel_rfl) (by kernel_rfl) (lateK_iff (by rfl)) ?hqv13_12 ?hyv13_12 hCv13_11 hSv13_11 ?restv13_12
                  case hiv13_12 => simp only [List.getElem?_toArray, List.getElem?_cons_succ, List.getElem?_cons_zero, Option.some.injEq]; rfl
                  case hqv13_12 => exact fun _ _ _ h => h
                  case hyv13_12 =>
                   refine Or.inl ⟨by kernel_rfl, fun V hV => ?_⟩
                   have q0 := (lateK_g hV).2.2.2; clear hV
                   go_simp
                  intro hCv13_12 hSv13_12
                  clear hCv13_11 hSv13_11
                  try simp only [Go.Act.put, List.setIfInBounds_toArray, List.set_cons_zero, List.set_cons_succ]
                  refine wpAnyS_take (i := 13) (oi := ?oiv13_13) (v := .int .i64 dy) ?hiv13_13 (by kernel_rfl) (by kernel_rfl) (by kernel_rfl) (lateK_iff (by rfl)) ?hqv13_13 ?hyv13_13 hCv13_12 hSv13_12 ?restv13_13
                  case hiv13_13 => simp only [List.getElem?_toArray, List.getElem?_cons_succ, List.getElem?_cons_zero, Option.some.injEq]; rfl
                  case hqv13_13 => exact fun _ _ _ h => h
                  case hyv13_13 =>
                   refine Or.inl ⟨by kernel_rfl, fun V hV => ?_⟩
                   clear hV
                   go_simp
                  intro hCv13_13 hSv13_13
                  clear hCv13_12 hSv13_12
                  try simp only [Go.Act.put, List.setIfInBounds_toArray, List.set_cons_zero, List.set_cons_succ]
                  refine wpAnyS_ready (rs := [8]) (by kernel_rfl) (by simp) ?_
                  refine AllReadyS.cons rfl hCv13_13 (fun K hK => ?_) AllReadyS.nil
                  go_simp
                  refine (mrsquare_is dx DX.out.1 DX.out.2 _ HX).mono ?_; rintro e w1 ⟨rfl, rfl⟩
                  refine hK.out _ _ hG0 (fun hCv13_14 hSv13_14 => ?_)
                  clear hK hCv13_13 hSv13_13 K
                  try simp only [Go.Act.put, List.setIfInBounds_toArray, List.set_cons_zero, List.set_cons_succ]
                  refine wpAnyS_ready (rs := [14]) (by kernel_rfl) (by simp) ?_
                  refine AllReadyS.cons rfl hCv13_14 (fun K hK => ?_) AllReadyS.nil
                  go_simp
                  refine (mrsquare_is dy DY.out.1 DY.out.2 _ HY).mono ?_; rintro e w1 ⟨rfl, rfl⟩
                  refine hK.out _ _ hG0 (fun hCv13_15 hSv13_15 => ?_)
                  clear hK hCv13_14 hSv13_14 K
                  try simp only [Go.Act.put, List.setIfInBounds_toArray, List.set_cons_zero, List.set_cons_succ]
                  refine wpAnyS_take (i := 15) (oi := ?oiv13_16) (v := .int .i64 n) ?hiv13_16 (by kernel_rfl) (by kernel_rfl) (by kernel_rfl) (lateK_iff (by rfl)) ?hqv13_16 ?hyv13_16 hCv13_15 hSv13_15 ?restv13_16
                  case hiv13_16 => simp only [List.getElem?_toArray, List.getElem?_cons_succ, List.getElem?_cons_zero, Option.some.injEq]; rfl
                  case hqv13_16 => exact fun _ _ _ h => h
                  case hyv13_16 =>
                   refine Or.inl ⟨by kernel_rfl, fun V hV => ?_⟩
                   clear hV
                   go_simp
                  intro hCv13_16 hSv13_16
                  clear hCv13_15 hSv13_15
                  try simp only [Go.Act.put, List.setIfInBounds_toArray, List.set_cons_zero, List.set_cons_succ]
                  refine wpAnyS_take (i := 16) (oi := ?oiv13_17) (v := .int .i64 n) ?hiv13_17 (by kernel_rfl) (by kernel_rfl) (by kernel_rfl) (lateK_iff (by rfl)) ?hqv13_17 ?hyv13_17 hCv13_16 hSv13_16 ?restv13_17
                  case hiv13_17 => simp only [List.getElem?_toArray, List.getElem?_cons_succ, List.getElem?_cons_zero, Option.some.injEq]; rfl
                  case hqv13_17 => exact fun _ _ _ h => h
                  case hyv13_17 =>
                   refine Or.inl ⟨by kernel_rfl, fun V hV => ?_⟩
                   clear hV
                   go_simp
                  intro hCv13_17 hSv13_17
                  clear hCv13_16 hSv13_16
                  try simp only [Go.Act.put, List.setIfInBounds_toArray, List.set_cons_zero, List.set_cons_succ]
                  refine wpAnyS_take (i := 17) (oi := ?oiv13_18) (v := .pointer (some ⟨g1, j, none⟩)) ?hiv13_18 (by kernel_rfl) (by kernel_rfl) (by kernel_rfl) (lateK_iff (by rfl)) ?hqv13_18 ?hyv13_18 hCv13_17 hSv13_17 ?restv13_18
                  case hiv13_18 => simp only [List.getElem?_toArray, List.getElem?_cons_succ, List.getElem?_cons_zero, Option.some.injEq]; rfl
                  case hqv13_18 => exact fun _ _ _ h => h
                  case hyv13_18 =>
                   refine Or.inl ⟨by kernel_rfl, fun V hV => ?_⟩
                   clear hV
                   go_simp
                  intro hCv13_18 hSv13_18
                  clear hCv13_17 hSv13_17
                  try simp only [Go.Act.put, List.setIfInBounds_toArray, List.set_cons_zero, List.set_cons_succ]
                  refine wpAnyS_ready (rs := [18]) (by kernel_rfl) (by simp) ?_
                  refine AllReadyS.cons rfl hCv13_18 (fun K hK => ?_) AllReadyS.nil
                  go_simp
                  refine hK.out _ _ ⟨(World.cell?_setCell_other _ _ _ _ N4.out.1.symm).trans hG0.1, (World.cell?_setCell_other _ _ _ _ N4.out.2.1.symm).trans hG0.2.1, (World.cell?_setCell_other _ _ _ _ N4.out.2.2.1.symm).trans hG0.2.2.1, (World.cell?_setCell_other _ _ _ _ N4.out.2.2.2.symm).trans hG0.2.2.2⟩ (fun hCv13_19 hSv13_19 => ?_)
                  clear hK hCv13_18 hSv13_18 K
                  try simp only [Go.Act.put, List.setIfInBounds_toArray, List.set_cons_zero, List.set_cons_succ]
                  refine wpAnyS_done (by kernel_rfl) ?_ _
                  clear hCv13_19 hSv13_19
                  have hd : frD (sqL a b) k j = n := by
                   have hp := HPJ.out
                   have ho := HOJ.out
                   have hc := HC.out
                   have hr := HDR.out
                   unfold frO at ho hc
                   have hc2 := hc (by omega)
                   rw [HK0.out] at *
                   rw [HJ0.out] at *
                   rw [if_neg (by omega), Nat.add_sub_cancel] at ho
                   rw [if_neg (by omega), Nat.add_sub_cancel, Nat.add_sub_cancel] at hc2
                   simp only [frD, mn3]
                   rw [hr, hp, ho, ← hc2]
                   omega
                  have HD2 := Lib.hid hd
                  have HG4 := Lib.hid (mgrown_set GQ.out LG.out j (.int .i64 n))
                  have HR4 : Hid (RowAt (wq.setCell ⟨g1, j, none⟩ (.int .i64 n)) g1 b.length (frM (sqL a b) k (j + 1))) := by
                   have q := HRQ.out.set j n
                   have e := frM_set (sqL a b) k j
                   rw [HD2.out] at e
                   rw [e] at q; exact q
                  have HB4 : Hid ((wq.setCell ⟨g1, j, none⟩ (.int .i64 n)).heap[bx]? = some (.cells #[.int .i64 px, .int .i64 py] 64 (0, 0))) := by
                   show _ = _
                   rw [Below.heap_setCell _ _ _ _ (by show bx ≠ g1; exact fun e => NG.out e.symm)]; exact BXQ.out
                  have HC4 : Hid (0 < j + 1 → oj = frO (sqL a b) k (j + 1 - 1)) := fun _ => by rw [Nat.add_sub_cancel]; exact HOJ.out.symm
                  clear hd hG0 frq crq
                  go_wp2_with fail
                  go_roundw
                  case rel => exact ⟨j + 1, oj, HJL.out, by go_num, rfl, HC4.out, HG4.out, HR4.out, HB4.out⟩
                  case measure => have := HJL.out; simp [intOf]; omega
                 ·
                  go_upto_region 33 with (fail)
                  have bq : (wj.alloc (.cells #[.int .i64 qx, .int .i64 qy] 64)).drew.heap[wj.heap.size]? = some (.cells #[.int .i64 qx, .int .i64 qy] 64 (0, 0)) := mheap_new wj _
                  have gq : wj.grownBy (wj.alloc (.cells #[.int .i64 qx, .int .i64 qy] 64)).drew none := grown_trans (World.grownBy_alloc _ _ _) (grown_drewN _ _ 1)
                  have bxq := mblock_at HBX.out gq (by simp)
                  have HRQ := Lib.hid (HR.out.grown gq)
                  have frq := HRQ.out.free j
                  have crq := HRQ.out.cell (k := j) HJL.out
                  have NJ : Hid (g1 ≠ wj.heap.size) := fun e => by have := lt_of_block (show wj.heap[g1]? = _ from HR.out); omega
                  have hG0 : (fun V => V.cell? ⟨bx, 0, none⟩ = some (.int .i64 px) ∧ V.cell? ⟨bx, 1, none⟩ = some (.int .i64 py) ∧ V.cell? ⟨wj.heap.size, 0, none⟩ = some (.int .i64 qx) ∧ V.cell? ⟨wj.heap.size, 1, none⟩ = some (.int .i64 qy)) (wj.alloc (.cells #[.int .i64 qx, .int .i64 qy] 64)).drew := ⟨mblock_cell bxq 0 _ rfl, mblock_cell bxq 1 _ rfl, mblock_cell bq 0 _ rfl, mblock_cell bq 1 _ rfl⟩
                  have BXQ := Lib.hid bxq
                  have GQ := Lib.hid (grown_trans HGJ.out gq)
                  clear xb0 xb1 cr0 cr bq bxq y0 y1 gq
                  have n1 : (⟨bx, 0, none⟩ : Addr) ≠ ⟨g1, j, none⟩ := fun e => NG.out (congrArg Addr.block e).symm
                  have n2 : (⟨bx, 1, none⟩ : Addr) ≠ ⟨g1, j, none⟩ := fun e => NG.out (congrArg Addr.block e).symm
                  have n3 : (⟨wj.heap.size, 0, none⟩ : Addr) ≠ ⟨g1, j, none⟩ := fun e => NJ.out (congrArg Addr.block e).symm
                  have n4 : (⟨wj.heap.size, 1, none⟩ : Addr) ≠ ⟨g1, j, none⟩ := fun e => NJ.out (congrArg Addr.block e).symm
                  have N4 := Lib.hid (And.intro n1 (And.intro n2 (And.intro n3 n4)))
                  clear n1 n2 n3 n4
                  refine region_late (lateK (fun V => V.cell? ⟨bx, 0, none⟩ = some (.int .i64 px) ∧ V.cell? ⟨bx, 1, none⟩ = some (.int .i64 py) ∧ V.cell? ⟨wj.heap.size, 0, none⟩ = some (.int .i64 qx) ∧ V.cell? ⟨wj.heap.size, 1, none⟩ = some (.int .i64 qy)) []) (by kernel_rfl) hG0 (fun hCv14_0 hSv14_0 => ?_)
                  generalize (wj.alloc (.cells #[.int .i64 qx, .int .i64 qy] 64)).drew = wq at *
                  refine wpAnyS_take (i := 0) (oi := ?oiv14_1) (v := .slice (some ⟨g1, 0, none⟩) b.length b.length) ?hiv14_1 (by kernel_rfl) (by kernel_rfl) (by kernel_rfl) (lateK_iff (by rfl)) ?hqv14_1 ?hyv14_1 hCv14_0 hSv14_0 ?restv14_1
                  case hiv14_1 => simp only [List.getElem?_toArray, List.getElem?_cons_succ, List.getElem?_cons_zero, Option.some.injEq]; rfl
                  case hqv14_1 => exact fun _ _ _ h => h
                  case hyv14_1 =>
                   refine Or.inl ⟨by kernel_rfl, fun V hV => ?_⟩
                   clear hV
                   go_simp
                  intro hCv14_1 hSv14_1
                  clear hCv14_0 hSv14_0
                  try simp only [Go.Act.put, List.setIfInBounds_toArray, List.set_cons_zero, List.set_cons_succ]
                  refine wpAnyS_take (i := 1) (oi := ?oiv14_2) (v := .int .i64 (j : Int)) ?hiv14_2 (by kernel_rfl) (by kernel_rfl) (by kernel_rfl) (lateK_iff (by rfl)) ?hqv14_2 ?hyv14_2 hCv14_1 hSv14_1 ?restv14_2
                  case hiv14_2 => simp only [List.getElem?_toArray, List.getElem?_cons_succ, List.getElem?_cons_zero, Option.some.injEq]; rfl
                  case hqv14_2 => exact fun _ _ _ h => h
                  case hyv14_2 =>
                   refine Or.inl ⟨by kernel_rfl, fun V hV => ?_⟩
                   clear hV
                   go_simp
                  intro hCv14_2 hSv14_2
                  clear hCv14_1 hSv14_1
                  try simp only [Go.Act.put, List.setIfInBounds_toArray, List.set_cons_zero, List.set_cons_succ]
                  refine wpAnyS_take (i := 2) (oi := ?oiv14_3) (v := .int .i64 oj) ?hiv14_3 (by kernel_rfl) (by kernel_rfl) (by kernel_rfl) (lateK_iff (by rfl)) ?hqv14_3 ?hyv14_3 hCv14_2 hSv14_2 ?restv14_3
                  case hiv14_3 => simp only [List.getElem?_toArray, List.getElem?_cons_succ, List.getElem?_cons_zero, Option.some.injEq]; rfl
                  case hqv14_3 => exact fun _ _ _ h => h
                  case hyv14_3 =>
                   refine Or.inl ⟨by kernel_rfl, fun V hV => ?_⟩
                   clear hV
                   go_simp
                  intro hCv14_3 hSv14_3
                  clear hCv14_2 hSv14_2
                  try simp only [Go.Act.put, List.setIfInBounds_toArray, List.set_cons_zero, List.set_cons_succ]
                  refine wpAnyS_take (i := 3) (oi := ?oiv14_4) (v := .pointer (some ⟨bx, 0, none⟩)) ?hiv14_4 (by kernel_rfl) (by kernel_rfl) (by kernel_rfl) (lateK_iff (by rfl)) ?hqv14_4 ?hyv14_4 hCv14_3 hSv14_3 ?restv14_4
                  case hiv14_4 => simp only [List.getElem?_toArray, List.getElem?_cons_succ, List.getElem?_cons_zero, Option.some.injEq]; rfl
                  case hqv14_4 => exact fun _ _ _ h => h
                  case hyv14_4 =>
                   refine Or.inl ⟨by kernel_rfl, fun V hV => ?_⟩
                   clear hV
                   go_simp
                  intro hCv14_4 hSv14_4
                  clear hCv14_3 hSv14_3
                  try simp only [Go.Act.put, List.setIfInBounds_toArray, List.set_cons_zero, List.set_cons_succ]
                  refine wpAnyS_take (i := 4) (oi := ?oiv14_5) (v := .int .i64 px) ?hiv14_5 (by kernel_rfl) (by kernel_rfl) (by kernel_rfl) (lateK_iff (by rfl)) ?hqv14_5 ?hyv14_5 hCv14_4 hSv14_4 ?restv14_5
                  case hiv14_5 => simp only [List.getElem?_toArray, List.getElem?_cons_succ, List.getElem?_cons_zero, Option.some.injEq]; rfl
                  case hqv14_5 => exact fun _ _ _ h => h
                  case hyv14_5 =>
                   refine Or.inl ⟨by kernel_rfl, fun V hV => ?_⟩
                   have q0 := (lateK_g hV).1; clear hV
                   go_simp
                  intro hCv14_5 hSv14_5
                  clear hCv14_4 hSv14_4
                  try simp only [Go.Act.put, List.setIfInBounds_toArray, List.set_cons_zero, List.set_cons_succ]
                  refine wpAnyS_take (i := 5) (oi := ?oiv14_6) (v := .pointer (some ⟨wj.heap.size, 0, none⟩)) ?hiv14_6 (by kernel_rfl) (by kernel_rfl) (by kernel_rfl) (lateK_iff (by rfl)) ?hqv14_6 ?hyv14_6 hCv14_5 hSv14_5 ?restv14_6
                  case hiv14_6 => simp only [List.getElem?_toArray, List.getElem?_cons_succ, List.getElem?_cons_zero, Option.some.injEq]; rfl
                  case hqv14_6 => exact fun _ _ _ h => h
                  case hyv14_6 =>
                   refine Or.inl ⟨by kernel_rfl, fun V hV => ?_⟩
                   clear hV
                   go_simp
                  intro hCv14_6 hSv14_6
                  clear hCv14_5 hSv14_5
                  try simp only [Go.Act.put, List.setIfInBounds_toArray, List.set_cons_zero, List.set_cons_succ]
                  refine wpAnyS_take (i := 6) (oi := ?oiv14_7) (v := .int .i64 qx) ?hiv14_7 (by kernel_rfl) (by kernel_rfl) (by kernel_rfl) (lateK_iff (by rfl)) ?hqv14_7 ?hyv14_7 hCv14_6 hSv14_6 ?restv14_7
                  case hiv14_7 => simp only [List.getElem?_toArray, List.getElem?_cons_succ, List.getElem?_cons_zero, Option.some.injEq]; rfl
                  case hqv14_7 => exact fun _ _ _ h => h
                  case hyv14_7 =>
                   refine Or.inl ⟨by kernel_rfl, fun V hV => ?_⟩
                   have q0 := (lateK_g hV).2.2.1; clear hV
                   go_simp
                  intro hCv14_7 hSv14_7
                  clear hCv14_6 hSv14_6
                  try simp only [Go.Act.put, List.setIfInBounds_toArray, List.set_cons_zero, List.set_cons_succ]
                  refine wpAnyS_take (i := 7) (oi := ?oiv14_8) (v := .int .i64 dx) ?hiv14_8 (by kernel_rfl) (by kernel_rfl) (by kernel_rfl) (lateK_iff (by rfl)) ?hqv14_8 ?hyv14_8 hCv14_7 hSv14_7 ?restv14_8
                  case hiv14_8 => simp only [List.getElem?_toArray, List.getElem?_cons_succ, List.getElem?_cons_zero, Option.some.injEq]; rfl
                  case hqv14_8 => exact fun _ _ _ h => h
                  case hyv14_8 =>
                   refine Or.inl ⟨by kernel_rfl, fun V hV => ?_⟩
                   clear hV
                   go_simp
                  intro hCv14_8 hSv14_8
                  clear hCv14_7 hSv14_7
                  try simp only [Go.Act.put, List.setIfInBounds_toArray, List.set_cons_zero, List.set_cons_succ]
                  refine wpAnyS_take (i := 9) (oi := ?oiv14_9) (v := .pointer (some ⟨bx, 1, none⟩)) ?hiv14_9 (by kernel_rfl) (by kernel_rfl) (by kernel_rfl) (lateK_iff (by rfl)) ?hqv14_9 ?hyv14_9 hCv14_8 hSv14_8 ?restv14_9
                  case hiv14_9 => simp only [List.getElem?_toArray, List.getElem?_cons_succ, List.getElem?_cons_zero, Option.some.injEq]; rfl
                  case hqv14_9 => exact fun _ _ _ h => h
                  case hyv14_9 =>
                   refine Or.inl ⟨by kernel_rfl, fun V hV => ?_⟩
                   clear hV
                   go_simp
                  intro hCv14_9 hSv14_9
                  clear hCv14_8 hSv14_8
                  try simp only [Go.Act.put, List.setIfInBounds_toArray, List.set_cons_zero, List.set_cons_succ]
                  refine wpAnyS_take (i := 10) (oi := ?oiv14_10) (v := .int .i64 py) ?hiv14_10 (by kernel_rfl) (by kernel_rfl) (by kernel_rfl) (lateK_iff (by rfl)) ?hqv14_10 ?hyv14_10 hCv14_9 hSv14_9 ?restv14_10
                  case hiv14_10 => simp only [List.getElem?_toArray, List.getElem?_cons_succ, List.getElem?_cons_zero, Option.some.injEq]; rfl
                  case hqv14_10 => exact fun _ _ _ h => h
                  case hyv14_10 =>
                   refine Or.inl ⟨by kernel_rfl, fun V hV => ?_⟩
                   have q0 := (lateK_g hV).2.1; clear hV
                   go_simp
                  intro hCv14_10 hSv14_10
                  clear hCv14_9 hSv14_9
                  try simp only [Go.Act.put, List.setIfInBounds_toArray, List.set_cons_zero, List.set_cons_succ]
                  refine wpAnyS_take (i := 11) (oi := ?oiv14_11) (v := .pointer (some ⟨wj.heap.size, 1, none⟩)) ?hiv14_11 (by kernel_rfl) (by kernel_rfl) (by kernel_rfl) (lateK_iff (by rfl)) ?hqv14_11 ?hyv14_11 hCv14_10 hSv14_10 ?restv14_11
                  case hiv14_11 => simp only [List.getElem?_toArray, List.getElem?_cons_succ, List.getElem?_cons_zero, Option.some.injEq]; rfl
                  case hqv14_11 => exact fun _ _ _ h => h
                  case hyv14_11 =>
                   refine Or.inl ⟨by kernel_rfl, fun V hV => ?_⟩
                   clear hV
                   go_simp
                  intro hCv14_11 hSv14_11
                  clear hCv14_10 hSv14_10
                  try simp only [Go.Act.put, List.setIfInBounds_toArray, List.set_cons_zero, List.set_cons_succ]
                  refine wpAnyS_take (i := 12) (oi := ?oiv14_12) (v := .int .i64 qy) ?hiv14_12 (by kernel_rfl) (by kernel_rfl) (by kernel_rfl) (lateK_iff (by rfl)) ?hqv14_12 ?hyv14_12 hCv14_11 hSv14_11 ?restv14_12
                  case hiv14_12 => simp only [List.getElem?_toArray, List.getElem?_cons_succ, List.getElem?_cons_zero, Option.some.injEq]; rfl
                  case hqv14_12 => exact fun _ _ _ h => h
                  case hyv14_12 =>
                   refine Or.inl ⟨by kernel_rfl, fun V hV => ?_⟩
                   have q0 := (lateK_g hV).2.2.2; clear hV
                   go_simp
                  intro hCv14_12 hSv14_12
                  clear hCv14_11 hSv14_11
                  try simp only [Go.Act.put, List.setIfInBounds_toArray, List.set_cons_zero, List.set_cons_succ]
                  refine wpAnyS_take (i := 13) (oi := ?oiv14_13) (v := .int .i64 dy) ?hiv14_13 (by kernel_rfl) (by kernel_rfl) (by kernel_rfl) (lateK_iff (by rfl)) ?hqv14_13 ?hyv14_13 hCv14_12 hSv14_12 ?restv14_13
                  case hiv14_13 => simp only [List.getElem?_toArray, List.getElem?_cons_succ, List.getElem?_cons_zero, Option.some.injEq]; rfl
                  case hqv14_13 => exact fun _ _ _ h => h
                  case hyv14_13 =>
                   refine Or.inl ⟨by kernel_rfl, fun V hV => ?_⟩
                   clear hV
                   go_simp
                  intro hCv14_13 hSv14_13
                  clear hCv14_12 hSv14_12
                  try simp only [Go.Act.put, List.setIfInBounds_toArray, List.set_cons_zero, List.set_cons_succ]
                  refine wpAnyS_ready (rs := [8]) (by kernel_rfl) (by simp) ?_
                  refine AllReadyS.cons rfl hCv14_13 (fun K hK => ?_) AllReadyS.nil
                  go_simp
                  refine (mrsquare_is dx DX.out.1 DX.out.2 _ HX).mono ?_; rintro e w1 ⟨rfl, rfl⟩
                  refine hK.out _ _ hG0 (fun hCv14_14 hSv14_14 => ?_)
                  clear hK hCv14_13 hSv14_13 K
                  try simp only [Go.Act.put, List.setIfInBounds_toArray, List.set_cons_zero, List.set_cons_succ]
                  refine wpAnyS_ready (rs := [14]) (by kernel_rfl) (by simp) ?_
                  refine AllReadyS.cons rfl hCv14_14 (fun K hK => ?_) AllReadyS.nil
                  go_simp
                  refine (mrsquare_is dy DY.out.1 DY.out.2 _ HY).mono ?_; rintro e w1 ⟨rfl, rfl⟩
                  refine hK.out _ _ hG0 (fun hCv14_15 hSv14_15 => ?_)
                  clear hK hCv14_14 hSv14_14 K
                  try simp only [Go.Act.put, List.setIfInBounds_toArray, List.set_cons_zero, List.set_cons_succ]
                  refine wpAnyS_take (i := 15) (oi := ?oiv14_16) (v := .int .i64 n) ?hiv14_16 (by kernel_rfl) (by kernel_rfl) (by kernel_rfl) (lateK_iff (by rfl)) ?hqv14_16 ?hyv14_16 hCv14_15 hSv14_15 ?restv14_16
                  case hiv14_16 => simp only [List.getElem?_toArray, List.getElem?_cons_succ, List.getElem?_cons_zero, Option.some.injEq]; rfl
                  case hqv14_16 => exact fun _ _ _ h => h
                  case hyv14_16 =>
                   refine Or.inl ⟨by kernel_rfl, fun V hV => ?_⟩
                   clear hV
                   go_simp
                  intro hCv14_16 hSv14_16
                  clear hCv14_15 hSv14_15
                  try simp only [Go.Act.put, List.setIfInBounds_toArray, List.set_cons_zero, List.set_cons_succ]
                  refine wpAnyS_take (i := 16) (oi := ?oiv14_17) (v := .int .i64 oj) ?hiv14_17 (by kernel_rfl) (by kernel_rfl) (by kernel_rfl) (lateK_iff (by rfl)) ?hqv14_17 ?hyv14_17 hCv14_16 hSv14_16 ?restv14_17
                  case hiv14_17 => simp only [List.getElem?_toArray, List.getElem?_cons_succ, List.getElem?_cons_zero, Option.some.injEq]; rfl
                  case hqv14_17 => exact fun _ _ _ h => h
                  case hyv14_17 =>
                   refine Or.inl ⟨by kernel_rfl, fun V hV => ?_⟩
                   clear hV
                   go_simp
                  intro hCv14_17 hSv14_17
                  clear hCv14_16 hSv14_16
                  try simp only [Go.Act.put, List.setIfInBounds_toArray, List.set_cons_zero, List.set_cons_succ]
                  refine wpAnyS_take (i := 17) (oi := ?oiv14_18) (v := .pointer (some ⟨g1, j, none⟩)) ?hiv14_18 (by kernel_rfl) (by kernel_rfl) (by kernel_rfl) (lateK_iff (by rfl)) ?hqv14_18 ?hyv14_18 hCv14_17 hSv14_17 ?restv14_18
                  case hiv14_18 => simp only [List.getElem?_toArray, List.getElem?_cons_succ, List.getElem?_cons_zero, Option.some.injEq]; rfl
                  case hqv14_18 => exact fun _ _ _ h => h
                  case hyv14_18 =>
                   refine Or.inl ⟨by kernel_rfl, fun V hV => ?_⟩
                   clear hV
                   go_simp
                  intro hCv14_18 hSv14_18
                  clear hCv14_17 hSv14_17
                  try simp only [Go.Act.put, List.setIfInBounds_toArray, List.set_cons_zero, List.set_cons_succ]
                  refine wpAnyS_ready (rs := [18]) (by kernel_rfl) (by simp) ?_
                  refine AllReadyS.cons rfl hCv14_18 (fun K hK => ?_) AllReadyS.nil
                  go_simp
                  refine hK.out _ _ ⟨(World.cell?_setCell_other _ _ _ _ N4.out.1.symm).trans hG0.1, (World.cell?_setCell_other _ _ _ _ N4.out.2.1.symm).trans hG0.2.1, (World.cell?_setCell_other _ _ _ _ N4.out.2.2.1.symm).trans hG0.2.2.1, (World.cell?_setCell_other _ _ _ _ N4.out.2.2.2.symm).trans hG0.2.2.2⟩ (fun hCv14_19 hSv14_19 => ?_)
                  clear hK hCv14_18 hSv14_18 K
                  try simp only [Go.Act.put, List.setIfInBounds_toArray, List.set_cons_zero, List.set_cons_succ]
                  refine wpAnyS_done (by kernel_rfl) ?_ _
                  clear hCv14_19 hSv14_19
                  have hd : frD (sqL a b) k j = oj := by
                   have hp := HPJ.out
                   have ho := HOJ.out
                   have hc := HC.out
                   have hr := HDR.out
                   unfold frO at ho hc
                   have hc2 := hc (by omega)
                   rw [HK0.out] at *
                   rw [HJ0.out] at *
                   rw [if_neg (by omega), Nat.add_sub_cancel] at ho
                   rw [if_neg (by omega), Nat.add_sub_cancel, Nat.add_sub_cancel] at hc2
                   simp only [frD, mn3]
                   rw [hr, hp, ho, ← hc2]
                   omega
                  have HD2 := Lib.hid hd
                  have HG4 := Lib.hid (mgrown_set GQ.out LG.out j (.int .i64 oj))
                  have HR4 : Hid (RowAt (wq.setCell ⟨g1, j, none⟩ (.int .i64 oj)) g1 b.length (frM (sqL a b) k (j + 1))) := by
                   have q := HRQ.out.set j oj
                   have e := frM_set (sqL a b) k j
                   rw [HD2.out] at e
                   rw [e] at q; exact q
                  have HB4 : Hid ((wq.setCell ⟨g1, j, none⟩ (.int .i64 oj)).heap[bx]? = some (.cells #[.int .i64 px, .int .i64 py] 64 (0, 0))) := by
                   show _ = _
                   rw [Below.heap_setCell _ _ _ _ (by show bx ≠ g1; exact fun e => NG.out e.symm)]; exact BXQ.out
                  have HC4 : Hid (0 < j + 1 → oj = frO (sqL a b) k (j + 1 - 1)) := fun _ => by rw [Nat.add_sub_cancel]; exact HOJ.out.symm
                  clear hd hG0 frq crq
                  go_wp2_with fail
                  go_roundw
                  case rel => exact ⟨j + 1, oj, HJL.out, by go_num, rfl, HC4.out, HG4.out, HR4.out, HB4.out⟩
                  case measure => have := HJL.out; simp [intOf]; omega
            ·
             have HR2 : Hid (RowAt wj g1 b.length (frM (sqL a b) (k + 1) 0)) := hR.out.congr (fun x hx => by unfold frM frO; rw [if_pos (by omega), if_neg (by omega), if_neg (by omega), Nat.add_sub_cancel])
             have HG2 := Lib.hid hgj.out
             clear hR hgj hbx hc
             go_wp2_with fail
             go_roundw
             case rel => exact ⟨k + 1, HLT.out, by go_num, HG2.out, HR2.out⟩
             case measure => have := HLT.out; simp [intOf]; omega
          ·
           have hka : k = a.length := by omega
           have hc := hrow.out.cell (k := b.length - 1) (by have := M0.out; omega)
           rw [show frM (sqL a b) k 0 (b.length - 1) = V from by unfold frM frO; rw [if_neg (by omega), if_neg (by have := N0.out; omega), hka]; exact HVF.out] at hc
           obtain ⟨m, hm⟩ : ∃ m, b.length - 1 = m := ⟨_, rfl⟩
           have hm2 : (b.length : Int) - 1 = (m : Int) := by have := M0.out; omega
           have hm3 : IntKind.i64.wrap (m : Int) = (m : Int) := IntWalk.i64_in _ (by omega)
           have hm4 : (m : Int) < (b.length : Int) := by omega
           have hm5 : m < b.length := by have := M0.out; omega
           rw [hm] at hc
           have HGE := Lib.hid hg.out
           clear hrow hg hm hlt
           go_wp2_with fail
           go_ret2
           exact ⟨rfl, HGE.out⟩
end Go.Proofs.Ytnjanjbjhbniiaa
