/- The contract of Apart. -/
import Derived.Test.YtnjanjbjhbniiaaMApart
namespace Go.Proofs.Ytnjanjbjhbniiaa
open Go.RowKit
set_option linter.unusedSimpArgs false
set_option linter.unusedVariables false

/-- A row of the table that is filled up to a place. -/
def frK (s : Nat → Nat → Int) (i j : Nat) : Nat → Int := fun x => if x < j then frD s i x else 0
theorem frK_set (s : Nat → Nat → Int) (i j : Nat) : updI (frK s i j) j (frD s i j) = frK s i (j + 1) := by
  funext x
  unfold updI frK
  by_cases h : x = j
  · subst h; rw [if_pos rfl, if_pos (by omega)]
  · rw [if_neg h]
    by_cases h2 : x < j
    · rw [if_pos h2, if_pos (by omega)]
    · rw [if_neg h2, if_neg (by omega)]

set_option maxRecDepth 100000 in
set_option maxHeartbeats 6400000 in
theorem Apart_is (ao bo : Option Addr) (ac bc : Nat) (a b : List Pt) (w : World) (ha : PtsAt w ao a) (hb : PtsAt w bo b) (la : (a.length : Int) ≤ 9223372036854775807) (lb : (b.length : Int) ≤ 9223372036854775807) {E V : Int} (hE : Hid (routeE a b = E)) (hV : Hid (apV a b = V)) :
    Calls Try.prog 29 #[.slice ao a.length ac, .slice bo b.length bc] w fun e w' => e = .returned (.tuple #[.int .i64 V, .int .i64 E]) ∧ w.grownBy w' none := by
  have HA := Lib.hid ha; have HB := Lib.hid hb; have LA := Lib.hid la; have LB := Lib.hid lb
  clear ha hb la lb
  by_cases e0 : E = 0
  · subst e0
    have hr := hE.out
    unfold routeE at hr
    have n0 : 0 < a.length := by split at hr <;> omega
    have m0 : 0 < b.length := by split at hr <;> omega
    rw [if_neg (by omega)] at hr
    have n1 : a.length ≤ 300 := by split at hr <;> omega
    have m1 : b.length ≤ 300 := by split at hr <;> omega
    rw [if_neg (by omega)] at hr
    have hon : onL a = true ∧ onL b = true := by split at hr <;> first | assumption | omega
    have OA : Hid (∀ p ∈ a, onP p) := onL_iff.1 hon.1
    have OB : Hid (∀ p ∈ b, onP p) := onL_iff.1 hon.2
    have HV : Hid (frD (sqL a b) (a.length - 1) (b.length - 1) = V) := by
      have := hV.out
      unfold apV at this
      rw [if_pos hE.out] at this; exact this
    have SB : Hid (∀ i j, 0 ≤ frD (sqL a b) i j ∧ frD (sqL a b) i j ≤ 80000000000000000) := fun i j => ⟨frD_nonneg _ _ i j rfl, frD_bd (by omega) (fun i j => (sqD_bd (ptD_on OA.out i) (ptD_on OB.out j)).2) _ i j rfl⟩
    clear hr hon hV
    have hmk := run_make_row' (P := Try.prog) 47 3 (.int .i64 0) 8 Try.underlying47 info_int rfl .i64 .i64 b.length (by omega) (by omega)
    have N0 := Lib.hid n0; have M0 := Lib.hid m0
    clear n0 m0
    go_enter Try.func29, Try.ntmps29
    go_wp2_with fail
    refine (checkRoutes_is ao bo ac bc a b w HA.out HB.out LA.out LB.out hE).mono ?_; rintro e w1 ⟨rfl, hg1⟩
    have G1 := Lib.hid hg1
    clear hg1
    go_wp2_with fail
    go_loopw [7, 8, 22] (fun lv rv iv wr => ∃ k : Nat, k ≤ a.length ∧ iv = .int .i64 k ∧ Hid (w.grownBy wr none) ∧ Hid ((k = 0 ∧ rv = .slice none 0 0) ∨ (0 < k ∧ ∃ g, rv = .slice (some ⟨g, 0, none⟩) b.length b.length ∧ w.heap.size ≤ g ∧ RowAt wr g b.length (frD (sqL a b) (k - 1))))) (fun _ _ iv _ => a.length - (intOf iv).toNat)
    case atStart => exact ⟨0, Nat.zero_le _, rfl, G1.out, .inl ⟨rfl, rfl⟩⟩
    case round =>
      obtain ⟨k, hk, rfl, hg, hrow⟩ := hrel
      obtain ⟨wo, rfl⟩ : ∃ W : World, W = wr := ⟨_, rfl⟩
      by_cases hlt : k < a.length
      · obtain ⟨ga, oa, hao, qa⟩ := pts_at (HA.out.grown hg.out) (by omega)
        subst hao
        obtain ⟨x0, x1⟩ := qa k hlt
        have hPa : ptD a k = a[k] := ptD_at hlt
        rw [← hPa] at x0 x1
        have OPk : Hid (onP (ptD a k)) := ptD_on OA.out k
        have PA : Hid (∀ j, sqL a b k j = sqD (ptD a k) (ptD b j)) := fun j => rfl
        have hk0 : (k : Int) < (a.length : Int) := by omega
        have HG := Lib.hid hg.out; have HLT := Lib.hid hlt
        clear qa hPa hg
        generalize ptD a k = P at *
        obtain ⟨px, py⟩ := P
        simp only at x0 x1
        have MK := Lib.hid hmk
        rcases hrow.out with ⟨h0, rfl⟩ | ⟨h0, g0, rfl, hgw0, hR0⟩
        · have HK0 := Lib.hid h0
          have q1 : decide ((0 : Int) < (k : Int)) = false := decide_eq_false (by omega)
          have q1p : ¬ (0 : Int) < (k : Int) := by omega
          clear h0
          clear hrow
          go_wp2_with fail
          clear x0 x1
          have bP : (wo.alloc (.cells #[.int .i64 px, .int .i64 py] 64)).heap[wo.heap.size]? = some (.cells #[.int .i64 px, .int .i64 py] 64 (0, 0)) := mheap_new wo _
          have gP := World.grownBy_alloc wo (.cells #[.int .i64 px, .int .i64 py] 64) none
          have sP : (wo.alloc (.cells #[.int .i64 px, .int .i64 py] 64)).heap.size = wo.heap.size + 1 := by simp
          generalize wo.alloc (.cells #[.int .i64 px, .int .i64 py] 64) = wp at *
          have BP0 := Lib.hid bP; have GP := Lib.hid gP; have SP := Lib.hid sP
          clear bP gP sP
          go_region
          all_goals
            have bR : RowAt (wp.alloc (.cells (madeCells #[.int .i64 0] b.length) 3)).drew wp.heap.size b.length (frK (sqL a b) k 0) := by
              have e : frK (sqL a b) k 0 = fun _ => 0 := by funext x; exact if_neg (by omega)
              rw [e]; unfold RowAt; rw [← iRow_zero]; exact mheap_new wp _
            have gR : wp.grownBy (wp.alloc (.cells (madeCells #[.int .i64 0] b.length) 3)).drew none := grown_trans (World.grownBy_alloc _ _ _) (grown_drewN _ _ 1)
            have B1 : Hid ((wp.alloc (.cells (madeCells #[.int .i64 0] b.length) 3)).drew.heap[wo.heap.size]? = some (.cells #[.int .i64 px, .int .i64 py] 64 (0, 0))) := mblock_at BP0.out gR (by simp)
            have G2 := Lib.hid (grown_trans HG.out (grown_trans GP.out gR))
            have R1 := Lib.hid bR
            clear bR gR
            generalize (wp.alloc (.cells (madeCells #[.int .i64 0] b.length) 3)).drew = w2 at *
            obtain ⟨g1, hg1⟩ : ∃ g, wp.heap.size = g := ⟨_, rfl⟩
            rw [hg1] at R1
            have NG : Hid (g1 ≠ wo.heap.size ∧ w.heap.size ≤ g1) := by
              have := SP.out; have := HG.out.size
              show _ ∧ _
              omega
            obtain ⟨bx, hbx0⟩ : ∃ g, wo.heap.size = g := ⟨_, rfl⟩
            rw [hbx0] at B1 NG
            try rw [hg1]
            try rw [hbx0]
            clear hg1 hbx0
            clear hmk
            go_wp2_with fail
            go_loopw [33] (fun jv wr => ∃ j : Nat, j ≤ b.length ∧ jv = .int .i64 j ∧ Hid (w.grownBy wr none) ∧ Hid (RowAt wr g1 b.length (frK (sqL a b) k j)) ∧ Hid (wr.heap[bx]? = some (.cells #[.int .i64 px, .int .i64 py] 64 (0, 0)))) (fun jv _ => b.length - (intOf jv).toNat)
            case atStart => exact ⟨0, Nat.zero_le _, rfl, G2.out, R1.out, B1.out⟩
            case round =>
              obtain ⟨j, hj, rfl, hgj, hR, hbx⟩ := hrel
              obtain ⟨wj, rfl⟩ : ∃ W : World, W = wr := ⟨_, rfl⟩
              clear G2 R1 B1
              by_cases hjl : j < b.length
              · obtain ⟨gb, ob, hbo, qb⟩ := pts_at (HB.out.grown hgj.out) (by omega)
                subst hbo
                obtain ⟨y0, y1⟩ := qb j hjl
                rw [← ptD_at hjl] at y0 y1
                have OQ : Hid (onP (ptD b j)) := ptD_on OB.out j
                have PJ := PA.out j
                have hj0 : (j : Int) < (b.length : Int) := by omega
                have HGJ := Lib.hid hgj.out; have HJL := Lib.hid hjl
                clear qb hgj
                generalize ptD b j = Q at *
                obtain ⟨qx, qy⟩ := Q
                simp only at y0 y1
                obtain ⟨n, hn⟩ : ∃ n, sqD ⟨px, py⟩ ⟨qx, qy⟩ = n := ⟨_, rfl⟩
                have hnb := sqD_bd OPk.out OQ.out
                rw [hn] at hnb PJ
                have HSQ := Lib.hid hn; have HPJ := Lib.hid PJ; have HNB := Lib.hid hnb
                clear hn PJ hnb
                have xb0 := grown_cell (World.grownBy_alloc wj (.cells #[.int .i64 qx, .int .i64 qy] 64) none) (mblock_cell hbx.out 0 _ rfl)
                have xb1 := grown_cell (World.grownBy_alloc wj (.cells #[.int .i64 qx, .int .i64 qy] 64) none) (mblock_cell hbx.out 1 _ rfl)
                by_cases jz : j = 0
                · have p1 : decide ((0 : Int) < (j : Int)) = false := decide_eq_false (by omega)
                  have p1p : ¬ (0 : Int) < (j : Int) := by omega
                  have HJ0 := Lib.hid jz
                  clear jz
                  have HR := Lib.hid hR.out; have HBX := Lib.hid hbx.out
                  clear hR hbx
                  rcases (by omega : 0 < n ∨ ¬ 0 < n) with hm | hm
                  · go_wp2_with fail
                    refine (msquare_is ⟨px, py⟩ ⟨qx, qy⟩ OPk.out OQ.out _ HSQ).mono ?_; rintro e w3 ⟨rfl, hg3⟩
                    have G3 : Hid (wj.grownBy w3 none) := grown_trans (World.grownBy_alloc _ _ _) hg3
                    have HR3 := Lib.hid (HR.out.grown G3.out)
                    have fr3 := HR3.out.free j
                    have cS3 := HR3.out.cell (k := j) HJL.out
                    have hd : frD (sqL a b) k j = n := by
                      have hp := HPJ.out
                      rw [HK0.out, HJ0.out]; simp only [frD]
                      rw [HK0.out, HJ0.out] at hp; rw [hp]
                      omega
                    have HD2 := Lib.hid hd
                    have HG4 := Lib.hid (mgrown_set (grown_trans HGJ.out G3.out) NG.out.2 j (.int .i64 n))
                    have HR4 : Hid (RowAt (w3.setCell ⟨g1, j, none⟩ (.int .i64 n)) g1 b.length (frK (sqL a b) k (j + 1))) := by
                      have q := HR3.out.set j n
                      have e := frK_set (sqL a b) k j
                      rw [HD2.out] at e
                      rw [e] at q; exact q
                    have HB4 : Hid ((w3.setCell ⟨g1, j, none⟩ (.int .i64 n)).heap[bx]? = some (.cells #[.int .i64 px, .int .i64 py] 64 (0, 0))) := by
                      show _ = _
                      rw [Below.heap_setCell _ _ _ _ (by show bx ≠ g1; exact fun e => NG.out.1 e.symm)]; exact mblock_at HBX.out G3.out (by simp)
                    clear hg3 hd y0 y1 xb0 xb1
                    go_wp2_with fail
                    go_roundw
                    case rel => exact ⟨j + 1, HJL.out, by go_num, HG4.out, HR4.out, HB4.out⟩
                    case measure => have := HJL.out; simp [intOf]; omega
                  · go_wp2_with fail
                    refine (msquare_is ⟨px, py⟩ ⟨qx, qy⟩ OPk.out OQ.out _ HSQ).mono ?_; rintro e w3 ⟨rfl, hg3⟩
                    have G3 : Hid (wj.grownBy w3 none) := grown_trans (World.grownBy_alloc _ _ _) hg3
                    have HR3 := Lib.hid (HR.out.grown G3.out)
                    have fr3 := HR3.out.free j
                    have cS3 := HR3.out.cell (k := j) HJL.out
                    have hd : frD (sqL a b) k j = 0 := by
                      have hp := HPJ.out
                      rw [HK0.out, HJ0.out]; simp only [frD]
                      rw [HK0.out, HJ0.out] at hp; rw [hp]
                      omega
                    have HD2 := Lib.hid hd
                    have HG4 := Lib.hid (mgrown_set (grown_trans HGJ.out G3.out) NG.out.2 j (.int .i64 0))
                    have HR4 : Hid (RowAt (w3.setCell ⟨g1, j, none⟩ (.int .i64 0)) g1 b.length (frK (sqL a b) k (j + 1))) := by
                      have q := HR3.out.set j 0
                      have e := frK_set (sqL a b) k j
                      rw [HD2.out] at e
                      rw [e] at q; exact q
                    have HB4 : Hid ((w3.setCell ⟨g1, j, none⟩ (.int .i64 0)).heap[bx]? = some (.cells #[.int .i64 px, .int .i64 py] 64 (0, 0))) := by
                      show _ = _
                      rw [Below.heap_setCell _ _ _ _ (by show bx ≠ g1; exact fun e => NG.out.1 e.symm)]; exact mblock_at HBX.out G3.out (by simp)
                    clear hg3 hd y0 y1 xb0 xb1
                    go_wp2_with fail
                    go_roundw
                    case rel => exact ⟨j + 1, HJL.out, by go_num, HG4.out, HR4.out, HB4.out⟩
                    case measure => have := HJL.out; simp [intOf]; omega
                · have p1 : decide ((0 : Int) < (j : Int)) = true := decide_eq_true (by omega)
                  have p1p : (0 : Int) < (j : Int) := by omega
                  obtain ⟨j1, hj1⟩ : ∃ j1, j = j1 + 1 := ⟨j - 1, by omega⟩
                  have em : (j : Int) - 1 = (j1 : Int) := by omega
                  have rk : IntKind.i64.wrap (j1 : Int) = (j1 : Int) := IntWalk.i64_in _ (by omega)
                  have j1l : (j1 : Int) < (b.length : Int) := by omega
                  have j1n : j1 < b.length := by omega
                  have HJ0 := Lib.hid hj1
                  have cr := hR.out.cell (k := j1) j1n
                  rw [show frK (sqL a b) k j j1 = frD (sqL a b) k j1 from if_pos (by omega)] at cr
                  obtain ⟨dr, hdr⟩ : ∃ d, frD (sqL a b) k j1 = d := ⟨_, rfl⟩
                  rw [hdr] at cr
                  replace cr := grown_cell (World.grownBy_alloc wj (.cells #[.int .i64 qx, .int .i64 qy] 64) none) cr
                  have HDR := Lib.hid hdr
                  clear hj1 jz hdr
                  have HR := Lib.hid hR.out; have HBX := Lib.hid hbx.out
                  clear hR hbx
                  rcases (by omega : dr < n ∨ ¬ dr < n) with hm | hm
                  · go_wp2_with fail
                    refine (msquare_is ⟨px, py⟩ ⟨qx, qy⟩ OPk.out OQ.out _ HSQ).mono ?_; rintro e w3 ⟨rfl, hg3⟩
                    have G3 : Hid (wj.grownBy w3 none) := grown_trans (World.grownBy_alloc _ _ _) hg3
                    have HR3 := Lib.hid (HR.out.grown G3.out)
                    have fr3 := HR3.out.free j
                    have cS3 := HR3.out.cell (k := j) HJL.out
                    have hd : frD (sqL a b) k j = n := by
                      have hp := HPJ.out
                      have hr := HDR.out
                      rw [HK0.out, HJ0.out]; simp only [frD]
                      rw [HK0.out] at hr hp; rw [HJ0.out] at hp; rw [hr, hp]
                      omega
                    have HD2 := Lib.hid hd
                    have HG4 := Lib.hid (mgrown_set (grown_trans HGJ.out G3.out) NG.out.2 j (.int .i64 n))
                    have HR4 : Hid (RowAt (w3.setCell ⟨g1, j, none⟩ (.int .i64 n)) g1 b.length (frK (sqL a b) k (j + 1))) := by
                      have q := HR3.out.set j n
                      have e := frK_set (sqL a b) k j
                      rw [HD2.out] at e
                      rw [e] at q; exact q
                    have HB4 : Hid ((w3.setCell ⟨g1, j, none⟩ (.int .i64 n)).heap[bx]? = some (.cells #[.int .i64 px, .int .i64 py] 64 (0, 0))) := by
                      show _ = _
                      rw [Below.heap_setCell _ _ _ _ (by show bx ≠ g1; exact fun e => NG.out.1 e.symm)]; exact mblock_at HBX.out G3.out (by simp)
                    clear hg3 hd y0 y1 xb0 xb1 cr
                    go_wp2_with fail
                    go_roundw
                    case rel => exact ⟨j + 1, HJL.out, by go_num, HG4.out, HR4.out, HB4.out⟩
                    case measure => have := HJL.out; simp [intOf]; omega
                  · go_wp2_with fail
                    refine (msquare_is ⟨px, py⟩ ⟨qx, qy⟩ OPk.out OQ.out _ HSQ).mono ?_; rintro e w3 ⟨rfl, hg3⟩
                    have G3 : Hid (wj.grownBy w3 none) := grown_trans (World.grownBy_alloc _ _ _) hg3
                    have HR3 := Lib.hid (HR.out.grown G3.out)
                    have fr3 := HR3.out.free j
                    have cS3 := HR3.out.cell (k := j) HJL.out
                    have hd : frD (sqL a b) k j = dr := by
                      have hp := HPJ.out
                      have hr := HDR.out
                      rw [HK0.out, HJ0.out]; simp only [frD]
                      rw [HK0.out] at hr hp; rw [HJ0.out] at hp; rw [hr, hp]
                      omega
                    have HD2 := Lib.hid hd
                    have HG4 := Lib.hid (mgrown_set (grown_trans HGJ.out G3.out) NG.out.2 j (.int .i64 dr))
                    have HR4 : Hid (RowAt (w3.setCell ⟨g1, j, none⟩ (.int .i64 dr)) g1 b.length (frK (sqL a b) k (j + 1))) := by
                      have q := HR3.out.set j dr
                      have e := frK_set (sqL a b) k j
                      rw [HD2.out] at e
                      rw [e] at q; exact q
                    have HB4 : Hid ((w3.setCell ⟨g1, j, none⟩ (.int .i64 dr)).heap[bx]? = some (.cells #[.int .i64 px, .int .i64 py] 64 (0, 0))) := by
                      show _ = _
                      rw [Below.heap_setCell _ _ _ _ (by show bx ≠ g1; exact fun e => NG.out.1 e.symm)]; exact mblock_at HBX.out G3.out (by simp)
                    clear hg3 hd y0 y1 xb0 xb1 cr
                    go_wp2_with fail
                    go_roundw
                    case rel => exact ⟨j + 1, HJL.out, by go_num, HG4.out, HR4.out, HB4.out⟩
                    case measure => have := HJL.out; simp [intOf]; omega
              · have hje : j = b.length := by omega
                have HR2 : Hid (RowAt wj g1 b.length (frD (sqL a b) k)) := hR.out.congr (fun x hx => if_pos (by omega))
                have HG2 := Lib.hid hgj.out
                clear hR hgj hbx
                go_wp2_with fail
                go_roundw
                case rel => exact ⟨k + 1, HLT.out, by go_num, HG2.out, .inr ⟨by omega, g1, rfl, NG.out.2, HR2.out⟩⟩
                case measure => have := HLT.out; simp [intOf]; omega
        · have q1 : decide ((0 : Int) < (k : Int)) = true := decide_eq_true (by omega)
          have q1p : (0 : Int) < (k : Int) := by omega
          obtain ⟨k1, hk1⟩ : ∃ k1, k = k1 + 1 := ⟨k - 1, by omega⟩
          have HK0 := Lib.hid hk1
          have hl0 := lt_of_block hR0
          have R0 := Lib.hid hR0; have GW0 := Lib.hid hgw0; have GL0 := Lib.hid hl0
          clear hR0 hgw0 h0 hl0
          rw [hk1, Nat.add_sub_cancel] at R0
          clear hk1
          clear hrow
          go_wp2_with fail
          clear x0 x1
          have bP : (wo.alloc (.cells #[.int .i64 px, .int .i64 py] 64)).heap[wo.heap.size]? = some (.cells #[.int .i64 px, .int .i64 py] 64 (0, 0)) := mheap_new wo _
          have gP := World.grownBy_alloc wo (.cells #[.int .i64 px, .int .i64 py] 64) none
          have sP : (wo.alloc (.cells #[.int .i64 px, .int .i64 py] 64)).heap.size = wo.heap.size + 1 := by simp
          generalize wo.alloc (.cells #[.int .i64 px, .int .i64 py] 64) = wp at *
          have BP0 := Lib.hid bP; have GP := Lib.hid gP; have SP := Lib.hid sP
          clear bP gP sP
          go_region
          all_goals
            have bR : RowAt (wp.alloc (.cells (madeCells #[.int .i64 0] b.length) 3)).drew wp.heap.size b.length (frK (sqL a b) k 0) := by
              have e : frK (sqL a b) k 0 = fun _ => 0 := by funext x; exact if_neg (by omega)
              rw [e]; unfold RowAt; rw [← iRow_zero]; exact mheap_new wp _
            have gR : wp.grownBy (wp.alloc (.cells (madeCells #[.int .i64 0] b.length) 3)).drew none := grown_trans (World.grownBy_alloc _ _ _) (grown_drewN _ _ 1)
            have B1 : Hid ((wp.alloc (.cells (madeCells #[.int .i64 0] b.length) 3)).drew.heap[wo.heap.size]? = some (.cells #[.int .i64 px, .int .i64 py] 64 (0, 0))) := mblock_at BP0.out gR (by simp)
            have L1 := Lib.hid (R0.out.grown (grown_trans GP.out gR))
            have G2 := Lib.hid (grown_trans HG.out (grown_trans GP.out gR))
            have R1 := Lib.hid bR
            clear bR gR
            generalize (wp.alloc (.cells (madeCells #[.int .i64 0] b.length) 3)).drew = w2 at *
            obtain ⟨g1, hg1⟩ : ∃ g, wp.heap.size = g := ⟨_, rfl⟩
            rw [hg1] at R1
            have NG : Hid (g1 ≠ wo.heap.size ∧ w.heap.size ≤ g1 ∧ g0 ≠ g1) := by
              have := SP.out; have := HG.out.size; have := GL0.out
              show _ ∧ _
              omega
            obtain ⟨bx, hbx0⟩ : ∃ g, wo.heap.size = g := ⟨_, rfl⟩
            rw [hbx0] at B1 NG
            try rw [hg1]
            try rw [hbx0]
            clear hg1 hbx0
            clear hmk
            go_wp2_with fail
            go_loopw [33] (fun jv wr => ∃ j : Nat, j ≤ b.length ∧ jv = .int .i64 j ∧ Hid (w.grownBy wr none) ∧ Hid (RowAt wr g1 b.length (frK (sqL a b) k j)) ∧ Hid (wr.heap[bx]? = some (.cells #[.int .i64 px, .int .i64 py] 64 (0, 0))) ∧ Hid (RowAt wr g0 b.length (frD (sqL a b) k1))) (fun jv _ => b.length - (intOf jv).toNat)
            case atStart => exact ⟨0, Nat.zero_le _, rfl, G2.out, R1.out, B1.out, L1.out⟩
            case round =>
              obtain ⟨j, hj, rfl, hgj, hR, hbx, hL⟩ := hrel
              obtain ⟨wj, rfl⟩ : ∃ W : World, W = wr := ⟨_, rfl⟩
              clear G2 R1 B1 L1
              by_cases hjl : j < b.length
              · obtain ⟨gb, ob, hbo, qb⟩ := pts_at (HB.out.grown hgj.out) (by omega)
                subst hbo
                obtain ⟨y0, y1⟩ := qb j hjl
                rw [← ptD_at hjl] at y0 y1
                have OQ : Hid (onP (ptD b j)) := ptD_on OB.out j
                have PJ := PA.out j
                have hj0 : (j : Int) < (b.length : Int) := by omega
                have HGJ := Lib.hid hgj.out; have HJL := Lib.hid hjl
                clear qb hgj
                generalize ptD b j = Q at *
                obtain ⟨qx, qy⟩ := Q
                simp only at y0 y1
                obtain ⟨n, hn⟩ : ∃ n, sqD ⟨px, py⟩ ⟨qx, qy⟩ = n := ⟨_, rfl⟩
                have hnb := sqD_bd OPk.out OQ.out
                rw [hn] at hnb PJ
                have HSQ := Lib.hid hn; have HPJ := Lib.hid PJ; have HNB := Lib.hid hnb
                clear hn PJ hnb
                have xb0 := grown_cell (World.grownBy_alloc wj (.cells #[.int .i64 qx, .int .i64 qy] 64) none) (mblock_cell hbx.out 0 _ rfl)
                have xb1 := grown_cell (World.grownBy_alloc wj (.cells #[.int .i64 qx, .int .i64 qy] 64) none) (mblock_cell hbx.out 1 _ rfl)
                by_cases jz : j = 0
                · have p1 : decide ((0 : Int) < (j : Int)) = false := decide_eq_false (by omega)
                  have p1p : ¬ (0 : Int) < (j : Int) := by omega
                  have HJ0 := Lib.hid jz
                  clear jz
                  have cl := hL.out.cell (k := j) hjl
                  obtain ⟨dl, hdl⟩ : ∃ d, frD (sqL a b) k1 j = d := ⟨_, rfl⟩
                  rw [hdl] at cl
                  replace cl := grown_cell (World.grownBy_alloc wj (.cells #[.int .i64 qx, .int .i64 qy] 64) none) cl
                  have HDL := Lib.hid hdl
                  clear hdl
                  have HR := Lib.hid hR.out; have HBX := Lib.hid hbx.out
                  have HL := Lib.hid hL.out; clear hL
                  clear hR hbx
                  rcases (by omega : dl < n ∨ ¬ dl < n) with hm | hm
                  · go_wp2_with fail
                    refine (msquare_is ⟨px, py⟩ ⟨qx, qy⟩ OPk.out OQ.out _ HSQ).mono ?_; rintro e w3 ⟨rfl, hg3⟩
                    have G3 : Hid (wj.grownBy w3 none) := grown_trans (World.grownBy_alloc _ _ _) hg3
                    have HR3 := Lib.hid (HR.out.grown G3.out)
                    have fr3 := HR3.out.free j
                    have cS3 := HR3.out.cell (k := j) HJL.out
                    have hd : frD (sqL a b) k j = n := by
                      have hp := HPJ.out
                      have hl := HDL.out
                      rw [HK0.out, HJ0.out]; simp only [frD]
                      rw [HJ0.out] at hl hp; rw [HK0.out] at hp; rw [hl, hp]
                      omega
                    have HD2 := Lib.hid hd
                    have HG4 := Lib.hid (mgrown_set (grown_trans HGJ.out G3.out) NG.out.2.1 j (.int .i64 n))
                    have HR4 : Hid (RowAt (w3.setCell ⟨g1, j, none⟩ (.int .i64 n)) g1 b.length (frK (sqL a b) k (j + 1))) := by
                      have q := HR3.out.set j n
                      have e := frK_set (sqL a b) k j
                      rw [HD2.out] at e
                      rw [e] at q; exact q
                    have HB4 : Hid ((w3.setCell ⟨g1, j, none⟩ (.int .i64 n)).heap[bx]? = some (.cells #[.int .i64 px, .int .i64 py] 64 (0, 0))) := by
                      show _ = _
                      rw [Below.heap_setCell _ _ _ _ (by show bx ≠ g1; exact fun e => NG.out.1 e.symm)]; exact mblock_at HBX.out G3.out (by simp)
                    have HL4 := Lib.hid ((HL.out.grown G3.out).far NG.out.2.2 j (.int .i64 n))
                    clear hg3 hd y0 y1 xb0 xb1 cl
                    go_wp2_with fail
                    go_roundw
                    case rel => exact ⟨j + 1, HJL.out, by go_num, HG4.out, HR4.out, HB4.out, HL4.out⟩
                    case measure => have := HJL.out; simp [intOf]; omega
                  · go_wp2_with fail
                    refine (msquare_is ⟨px, py⟩ ⟨qx, qy⟩ OPk.out OQ.out _ HSQ).mono ?_; rintro e w3 ⟨rfl, hg3⟩
                    have G3 : Hid (wj.grownBy w3 none) := grown_trans (World.grownBy_alloc _ _ _) hg3
                    have HR3 := Lib.hid (HR.out.grown G3.out)
                    have fr3 := HR3.out.free j
                    have cS3 := HR3.out.cell (k := j) HJL.out
                    have hd : frD (sqL a b) k j = dl := by
                      have hp := HPJ.out
                      have hl := HDL.out
                      rw [HK0.out, HJ0.out]; simp only [frD]
                      rw [HJ0.out] at hl hp; rw [HK0.out] at hp; rw [hl, hp]
                      omega
                    have HD2 := Lib.hid hd
                    have HG4 := Lib.hid (mgrown_set (grown_trans HGJ.out G3.out) NG.out.2.1 j (.int .i64 dl))
                    have HR4 : Hid (RowAt (w3.setCell ⟨g1, j, none⟩ (.int .i64 dl)) g1 b.length (frK (sqL a b) k (j + 1))) := by
                      have q := HR3.out.set j dl
                      have e := frK_set (sqL a b) k j
                      rw [HD2.out] at e
                      rw [e] at q; exact q
                    have HB4 : Hid ((w3.setCell ⟨g1, j, none⟩ (.int .i64 dl)).heap[bx]? = some (.cells #[.int .i64 px, .int .i64 py] 64 (0, 0))) := by
                      show _ = _
                      rw [Below.heap_setCell _ _ _ _ (by show bx ≠ g1; exact fun e => NG.out.1 e.symm)]; exact mblock_at HBX.out G3.out (by simp)
                    have HL4 := Lib.hid ((HL.out.grown G3.out).far NG.out.2.2 j (.int .i64 dl))
                    clear hg3 hd y0 y1 xb0 xb1 cl
                    go_wp2_with fail
                    go_roundw
                    case rel => exact ⟨j + 1, HJL.out, by go_num, HG4.out, HR4.out, HB4.out, HL4.out⟩
                    case measure => have := HJL.out; simp [intOf]; omega
                · have p1 : decide ((0 : Int) < (j : Int)) = true := decide_eq_true (by omega)
                  have p1p : (0 : Int) < (j : Int) := by omega
                  obtain ⟨j1, hj1⟩ : ∃ j1, j = j1 + 1 := ⟨j - 1, by omega⟩
                  have em : (j : Int) - 1 = (j1 : Int) := by omega
                  have rk : IntKind.i64.wrap (j1 : Int) = (j1 : Int) := IntWalk.i64_in _ (by omega)
                  have j1l : (j1 : Int) < (b.length : Int) := by omega
                  have j1n : j1 < b.length := by omega
                  have HJ0 := Lib.hid hj1
                  have cr := hR.out.cell (k := j1) j1n
                  rw [show frK (sqL a b) k j j1 = frD (sqL a b) k j1 from if_pos (by omega)] at cr
                  obtain ⟨dr, hdr⟩ : ∃ d, frD (sqL a b) k j1 = d := ⟨_, rfl⟩
                  rw [hdr] at cr
                  replace cr := grown_cell (World.grownBy_alloc wj (.cells #[.int .i64 qx, .int .i64 qy] 64) none) cr
                  have HDR := Lib.hid hdr
                  clear hj1 jz hdr
                  have cl := hL.out.cell (k := j) hjl
                  obtain ⟨dl, hdl⟩ : ∃ d, frD (sqL a b) k1 j = d := ⟨_, rfl⟩
                  rw [hdl] at cl
                  replace cl := grown_cell (World.grownBy_alloc wj (.cells #[.int .i64 qx, .int .i64 qy] 64) none) cl
                  have HDL := Lib.hid hdl
                  clear hdl
                  have cd := hL.out.cell (k := j1) j1n
                  obtain ⟨dd, hdd⟩ : ∃ d, frD (sqL a b) k1 j1 = d := ⟨_, rfl⟩
                  rw [hdd] at cd
                  replace cd := grown_cell (World.grownBy_alloc wj (.cells #[.int .i64 qx, .int .i64 qy] 64) none) cd
                  have HDD := Lib.hid hdd
                  clear hdd
                  have HR := Lib.hid hR.out; have HBX := Lib.hid hbx.out
                  have HL := Lib.hid hL.out; clear hL
                  clear hR hbx
                  rcases (by omega : dl < dd ∨ ¬ dl < dd) with c1 | c1
                  · have c1n := c1
                    rcases (by omega : dr < dl ∨ ¬ dr < dl) with c2 | c2
                    · have c2n := c2
                      rcases (by omega : dr < n ∨ ¬ dr < n) with hm | hm
                      · go_wp2_with fail
                        go_quiet (fail)
                        go_wp2_with fail
                        refine (msquare_is ⟨px, py⟩ ⟨qx, qy⟩ OPk.out OQ.out _ HSQ).mono ?_; rintro e w3 ⟨rfl, hg3⟩
                        have G3 : Hid (wj.grownBy w3 none) := grown_trans (grown_trans (World.grownBy_alloc _ _ _) (grown_drewN _ _ _)) hg3
                        have HR3 := Lib.hid (HR.out.grown G3.out)
                        have fr3 := HR3.out.free j
                        have cS3 := HR3.out.cell (k := j) HJL.out
                        have hd : frD (sqL a b) k j = n := by
                          have hp := HPJ.out
                          have hr := HDR.out
                          have hl := HDL.out
                          have hdd := HDD.out
                          rw [HK0.out, HJ0.out]; simp only [frD, mn3]
                          rw [HK0.out] at hr hp; rw [HJ0.out] at hl hp; rw [hr, hl, hdd, hp]
                          omega
                        have HD2 := Lib.hid hd
                        have HG4 := Lib.hid (mgrown_set (grown_trans HGJ.out G3.out) NG.out.2.1 j (.int .i64 n))
                        have HR4 : Hid (RowAt (w3.setCell ⟨g1, j, none⟩ (.int .i64 n)) g1 b.length (frK (sqL a b) k (j + 1))) := by
                          have q := HR3.out.set j n
                          have e := frK_set (sqL a b) k j
                          rw [HD2.out] at e
                          rw [e] at q; exact q
                        have HB4 : Hid ((w3.setCell ⟨g1, j, none⟩ (.int .i64 n)).heap[bx]? = some (.cells #[.int .i64 px, .int .i64 py] 64 (0, 0))) := by
                          show _ = _
                          rw [Below.heap_setCell _ _ _ _ (by show bx ≠ g1; exact fun e => NG.out.1 e.symm)]; exact mblock_at HBX.out G3.out (by simp)
                        have HL4 := Lib.hid ((HL.out.grown G3.out).far NG.out.2.2 j (.int .i64 n))
                        clear hg3 hd y0 y1 xb0 xb1 cr cl cd
                        go_wp2_with fail
                        go_roundw
                        case rel => exact ⟨j + 1, HJL.out, by go_num, HG4.out, HR4.out, HB4.out, HL4.out⟩
                        case measure => have := HJL.out; simp [intOf]; omega
                      · go_wp2_with fail
                        go_quiet (fail)
                        go_wp2_with fail
                        refine (msquare_is ⟨px, py⟩ ⟨qx, qy⟩ OPk.out OQ.out _ HSQ).mono ?_; rintro e w3 ⟨rfl, hg3⟩
                        have G3 : Hid (wj.grownBy w3 none) := grown_trans (grown_trans (World.grownBy_alloc _ _ _) (grown_drewN _ _ _)) hg3
                        have HR3 := Lib.hid (HR.out.grown G3.out)
                        have fr3 := HR3.out.free j
                        have cS3 := HR3.out.cell (k := j) HJL.out
                        have hd : frD (sqL a b) k j = dr := by
                          have hp := HPJ.out
                          have hr := HDR.out
                          have hl := HDL.out
                          have hdd := HDD.out
                          rw [HK0.out, HJ0.out]; simp only [frD, mn3]
                          rw [HK0.out] at hr hp; rw [HJ0.out] at hl hp; rw [hr, hl, hdd, hp]
                          omega
                        have HD2 := Lib.hid hd
                        have HG4 := Lib.hid (mgrown_set (grown_trans HGJ.out G3.out) NG.out.2.1 j (.int .i64 dr))
                        have HR4 : Hid (RowAt (w3.setCell ⟨g1, j, none⟩ (.int .i64 dr)) g1 b.length (frK (sqL a b) k (j + 1))) := by
                          have q := HR3.out.set j dr
                          have e := frK_set (sqL a b) k j
                          rw [HD2.out] at e
                          rw [e] at q; exact q
                        have HB4 : Hid ((w3.setCell ⟨g1, j, none⟩ (.int .i64 dr)).heap[bx]? = some (.cells #[.int .i64 px, .int .i64 py] 64 (0, 0))) := by
                          show _ = _
                          rw [Below.heap_setCell _ _ _ _ (by show bx ≠ g1; exact fun e => NG.out.1 e.symm)]; exact mblock_at HBX.out G3.out (by simp)
                        have HL4 := Lib.hid ((HL.out.grown G3.out).far NG.out.2.2 j (.int .i64 dr))
                        clear hg3 hd y0 y1 xb0 xb1 cr cl cd
                        go_wp2_with fail
                        go_roundw
                        case rel => exact ⟨j + 1, HJL.out, by go_num, HG4.out, HR4.out, HB4.out, HL4.out⟩
                        case measure => have := HJL.out; simp [intOf]; omega
                    · have c2n := c2
                      rcases (by omega : dl < n ∨ ¬ dl < n) with hm | hm
                      · go_wp2_with fail
                        go_quiet (fail)
                        go_wp2_with fail
                        refine (msquare_is ⟨px, py⟩ ⟨qx, qy⟩ OPk.out OQ.out _ HSQ).mono ?_; rintro e w3 ⟨rfl, hg3⟩
                        have G3 : Hid (wj.grownBy w3 none) := grown_trans (grown_trans (World.grownBy_alloc _ _ _) (grown_drewN _ _ _)) hg3
                        have HR3 := Lib.hid (HR.out.grown G3.out)
                        have fr3 := HR3.out.free j
                        have cS3 := HR3.out.cell (k := j) HJL.out
                        have hd : frD (sqL a b) k j = n := by
                          have hp := HPJ.out
                          have hr := HDR.out
                          have hl := HDL.out
                          have hdd := HDD.out
                          rw [HK0.out, HJ0.out]; simp only [frD, mn3]
                          rw [HK0.out] at hr hp; rw [HJ0.out] at hl hp; rw [hr, hl, hdd, hp]
                          omega
                        have HD2 := Lib.hid hd
                        have HG4 := Lib.hid (mgrown_set (grown_trans HGJ.out G3.out) NG.out.2.1 j (.int .i64 n))
                        have HR4 : Hid (RowAt (w3.setCell ⟨g1, j, none⟩ (.int .i64 n)) g1 b.length (frK (sqL a b) k (j + 1))) := by
                          have q := HR3.out.set j n
                          have e := frK_set (sqL a b) k j
                          rw [HD2.out] at e
                          rw [e] at q; exact q
                        have HB4 : Hid ((w3.setCell ⟨g1, j, none⟩ (.int .i64 n)).heap[bx]? = some (.cells #[.int .i64 px, .int .i64 py] 64 (0, 0))) := by
                          show _ = _
                          rw [Below.heap_setCell _ _ _ _ (by show bx ≠ g1; exact fun e => NG.out.1 e.symm)]; exact mblock_at HBX.out G3.out (by simp)
                        have HL4 := Lib.hid ((HL.out.grown G3.out).far NG.out.2.2 j (.int .i64 n))
                        clear hg3 hd y0 y1 xb0 xb1 cr cl cd
                        go_wp2_with fail
                        go_roundw
                        case rel => exact ⟨j + 1, HJL.out, by go_num, HG4.out, HR4.out, HB4.out, HL4.out⟩
                        case measure => have := HJL.out; simp [intOf]; omega
                      · go_wp2_with fail
                        go_quiet (fail)
                        go_wp2_with fail
                        refine (msquare_is ⟨px, py⟩ ⟨qx, qy⟩ OPk.out OQ.out _ HSQ).mono ?_; rintro e w3 ⟨rfl, hg3⟩
                        have G3 : Hid (wj.grownBy w3 none) := grown_trans (grown_trans (World.grownBy_alloc _ _ _) (grown_drewN _ _ _)) hg3
                        have HR3 := Lib.hid (HR.out.grown G3.out)
                        have fr3 := HR3.out.free j
                        have cS3 := HR3.out.cell (k := j) HJL.out
                        have hd : frD (sqL a b) k j = dl := by
                          have hp := HPJ.out
                          have hr := HDR.out
                          have hl := HDL.out
                          have hdd := HDD.out
                          rw [HK0.out, HJ0.out]; simp only [frD, mn3]
                          rw [HK0.out] at hr hp; rw [HJ0.out] at hl hp; rw [hr, hl, hdd, hp]
                          omega
                        have HD2 := Lib.hid hd
                        have HG4 := Lib.hid (mgrown_set (grown_trans HGJ.out G3.out) NG.out.2.1 j (.int .i64 dl))
                        have HR4 : Hid (RowAt (w3.setCell ⟨g1, j, none⟩ (.int .i64 dl)) g1 b.length (frK (sqL a b) k (j + 1))) := by
                          have q := HR3.out.set j dl
                          have e := frK_set (sqL a b) k j
                          rw [HD2.out] at e
                          rw [e] at q; exact q
                        have HB4 : Hid ((w3.setCell ⟨g1, j, none⟩ (.int .i64 dl)).heap[bx]? = some (.cells #[.int .i64 px, .int .i64 py] 64 (0, 0))) := by
                          show _ = _
                          rw [Below.heap_setCell _ _ _ _ (by show bx ≠ g1; exact fun e => NG.out.1 e.symm)]; exact mblock_at HBX.out G3.out (by simp)
                        have HL4 := Lib.hid ((HL.out.grown G3.out).far NG.out.2.2 j (.int .i64 dl))
                        clear hg3 hd y0 y1 xb0 xb1 cr cl cd
                        go_wp2_with fail
                        go_roundw
                        case rel => exact ⟨j + 1, HJL.out, by go_num, HG4.out, HR4.out, HB4.out, HL4.out⟩
                        case measure => have := HJL.out; simp [intOf]; omega
                  · have c1n := c1
                    rcases (by omega : dr < dd ∨ ¬ dr < dd) with c2 | c2
                    · have c2n := c2
                      rcases (by omega : dr < n ∨ ¬ dr < n) with hm | hm
                      · go_wp2_with fail
                        go_quiet (fail)
                        go_wp2_with fail
                        refine (msquare_is ⟨px, py⟩ ⟨qx, qy⟩ OPk.out OQ.out _ HSQ).mono ?_; rintro e w3 ⟨rfl, hg3⟩
                        have G3 : Hid (wj.grownBy w3 none) := grown_trans (grown_trans (World.grownBy_alloc _ _ _) (grown_drewN _ _ _)) hg3
                        have HR3 := Lib.hid (HR.out.grown G3.out)
                        have fr3 := HR3.out.free j
                        have cS3 := HR3.out.cell (k := j) HJL.out
                        have hd : frD (sqL a b) k j = n := by
                          have hp := HPJ.out
                          have hr := HDR.out
                          have hl := HDL.out
                          have hdd := HDD.out
                          rw [HK0.out, HJ0.out]; simp only [frD, mn3]
                          rw [HK0.out] at hr hp; rw [HJ0.out] at hl hp; rw [hr, hl, hdd, hp]
                          omega
                        have HD2 := Lib.hid hd
                        have HG4 := Lib.hid (mgrown_set (grown_trans HGJ.out G3.out) NG.out.2.1 j (.int .i64 n))
                        have HR4 : Hid (RowAt (w3.setCell ⟨g1, j, none⟩ (.int .i64 n)) g1 b.length (frK (sqL a b) k (j + 1))) := by
                          have q := HR3.out.set j n
                          have e := frK_set (sqL a b) k j
                          rw [HD2.out] at e
                          rw [e] at q; exact q
                        have HB4 : Hid ((w3.setCell ⟨g1, j, none⟩ (.int .i64 n)).heap[bx]? = some (.cells #[.int .i64 px, .int .i64 py] 64 (0, 0))) := by
                          show _ = _
                          rw [Below.heap_setCell _ _ _ _ (by show bx ≠ g1; exact fun e => NG.out.1 e.symm)]; exact mblock_at HBX.out G3.out (by simp)
                        have HL4 := Lib.hid ((HL.out.grown G3.out).far NG.out.2.2 j (.int .i64 n))
                        clear hg3 hd y0 y1 xb0 xb1 cr cl cd
                        go_wp2_with fail
                        go_roundw
                        case rel => exact ⟨j + 1, HJL.out, by go_num, HG4.out, HR4.out, HB4.out, HL4.out⟩
                        case measure => have := HJL.out; simp [intOf]; omega
                      · go_wp2_with fail
                        go_quiet (fail)
                        go_wp2_with fail
                        refine (msquare_is ⟨px, py⟩ ⟨qx, qy⟩ OPk.out OQ.out _ HSQ).mono ?_; rintro e w3 ⟨rfl, hg3⟩
                        have G3 : Hid (wj.grownBy w3 none) := grown_trans (grown_trans (World.grownBy_alloc _ _ _) (grown_drewN _ _ _)) hg3
                        have HR3 := Lib.hid (HR.out.grown G3.out)
                        have fr3 := HR3.out.free j
                        have cS3 := HR3.out.cell (k := j) HJL.out
                        have hd : frD (sqL a b) k j = dr := by
                          have hp := HPJ.out
                          have hr := HDR.out
                          have hl := HDL.out
                          have hdd := HDD.out
                          rw [HK0.out, HJ0.out]; simp only [frD, mn3]
                          rw [HK0.out] at hr hp; rw [HJ0.out] at hl hp; rw [hr, hl, hdd, hp]
                          omega
                        have HD2 := Lib.hid hd
                        have HG4 := Lib.hid (mgrown_set (grown_trans HGJ.out G3.out) NG.out.2.1 j (.int .i64 dr))
                        have HR4 : Hid (RowAt (w3.setCell ⟨g1, j, none⟩ (.int .i64 dr)) g1 b.length (frK (sqL a b) k (j + 1))) := by
                          have q := HR3.out.set j dr
                          have e := frK_set (sqL a b) k j
                          rw [HD2.out] at e
                          rw [e] at q; exact q
                        have HB4 : Hid ((w3.setCell ⟨g1, j, none⟩ (.int .i64 dr)).heap[bx]? = some (.cells #[.int .i64 px, .int .i64 py] 64 (0, 0))) := by
                          show _ = _
                          rw [Below.heap_setCell _ _ _ _ (by show bx ≠ g1; exact fun e => NG.out.1 e.symm)]; exact mblock_at HBX.out G3.out (by simp)
                        have HL4 := Lib.hid ((HL.out.grown G3.out).far NG.out.2.2 j (.int .i64 dr))
                        clear hg3 hd y0 y1 xb0 xb1 cr cl cd
                        go_wp2_with fail
                        go_roundw
                        case rel => exact ⟨j + 1, HJL.out, by go_num, HG4.out, HR4.out, HB4.out, HL4.out⟩
                        case measure => have := HJL.out; simp [intOf]; omega
                    · have c2n := c2
                      rcases (by omega : dd < n ∨ ¬ dd < n) with hm | hm
                      · go_wp2_with fail
                        go_quiet (fail)
                        go_wp2_with fail
                        refine (msquare_is ⟨px, py⟩ ⟨qx, qy⟩ OPk.out OQ.out _ HSQ).mono ?_; rintro e w3 ⟨rfl, hg3⟩
                        have G3 : Hid (wj.grownBy w3 none) := grown_trans (grown_trans (World.grownBy_alloc _ _ _) (grown_drewN _ _ _)) hg3
                        have HR3 := Lib.hid (HR.out.grown G3.out)
                        have fr3 := HR3.out.free j
                        have cS3 := HR3.out.cell (k := j) HJL.out
                        have hd : frD (sqL a b) k j = n := by
                          have hp := HPJ.out
                          have hr := HDR.out
                          have hl := HDL.out
                          have hdd := HDD.out
                          rw [HK0.out, HJ0.out]; simp only [frD, mn3]
                          rw [HK0.out] at hr hp; rw [HJ0.out] at hl hp; rw [hr, hl, hdd, hp]
                          omega
                        have HD2 := Lib.hid hd
                        have HG4 := Lib.hid (mgrown_set (grown_trans HGJ.out G3.out) NG.out.2.1 j (.int .i64 n))
                        have HR4 : Hid (RowAt (w3.setCell ⟨g1, j, none⟩ (.int .i64 n)) g1 b.length (frK (sqL a b) k (j + 1))) := by
                          have q := HR3.out.set j n
                          have e := frK_set (sqL a b) k j
                          rw [HD2.out] at e
                          rw [e] at q; exact q
                        have HB4 : Hid ((w3.setCell ⟨g1, j, none⟩ (.int .i64 n)).heap[bx]? = some (.cells #[.int .i64 px, .int .i64 py] 64 (0, 0))) := by
                          show _ = _
                          rw [Below.heap_setCell _ _ _ _ (by show bx ≠ g1; exact fun e => NG.out.1 e.symm)]; exact mblock_at HBX.out G3.out (by simp)
                        have HL4 := Lib.hid ((HL.out.grown G3.out).far NG.out.2.2 j (.int .i64 n))
                        clear hg3 hd y0 y1 xb0 xb1 cr cl cd
                        go_wp2_with fail
                        go_roundw
                        case rel => exact ⟨j + 1, HJL.out, by go_num, HG4.out, HR4.out, HB4.out, HL4.out⟩
                        case measure => have := HJL.out; simp [intOf]; omega
                      · go_wp2_with fail
                        go_quiet (fail)
                        go_wp2_with fail
                        refine (msquare_is ⟨px, py⟩ ⟨qx, qy⟩ OPk.out OQ.out _ HSQ).mono ?_; rintro e w3 ⟨rfl, hg3⟩
                        have G3 : Hid (wj.grownBy w3 none) := grown_trans (grown_trans (World.grownBy_alloc _ _ _) (grown_drewN _ _ _)) hg3
                        have HR3 := Lib.hid (HR.out.grown G3.out)
                        have fr3 := HR3.out.free j
                        have cS3 := HR3.out.cell (k := j) HJL.out
                        have hd : frD (sqL a b) k j = dd := by
                          have hp := HPJ.out
                          have hr := HDR.out
                          have hl := HDL.out
                          have hdd := HDD.out
                          rw [HK0.out, HJ0.out]; simp only [frD, mn3]
                          rw [HK0.out] at hr hp; rw [HJ0.out] at hl hp; rw [hr, hl, hdd, hp]
                          omega
                        have HD2 := Lib.hid hd
                        have HG4 := Lib.hid (mgrown_set (grown_trans HGJ.out G3.out) NG.out.2.1 j (.int .i64 dd))
                        have HR4 : Hid (RowAt (w3.setCell ⟨g1, j, none⟩ (.int .i64 dd)) g1 b.length (frK (sqL a b) k (j + 1))) := by
                          have q := HR3.out.set j dd
                          have e := frK_set (sqL a b) k j
                          rw [HD2.out] at e
                          rw [e] at q; exact q
                        have HB4 : Hid ((w3.setCell ⟨g1, j, none⟩ (.int .i64 dd)).heap[bx]? = some (.cells #[.int .i64 px, .int .i64 py] 64 (0, 0))) := by
                          show _ = _
                          rw [Below.heap_setCell _ _ _ _ (by show bx ≠ g1; exact fun e => NG.out.1 e.symm)]; exact mblock_at HBX.out G3.out (by simp)
                        have HL4 := Lib.hid ((HL.out.grown G3.out).far NG.out.2.2 j (.int .i64 dd))
                        clear hg3 hd y0 y1 xb0 xb1 cr cl cd
                        go_wp2_with fail
                        go_roundw
                        case rel => exact ⟨j + 1, HJL.out, by go_num, HG4.out, HR4.out, HB4.out, HL4.out⟩
                        case measure => have := HJL.out; simp [intOf]; omega
              · have hje : j = b.length := by omega
                have HR2 : Hid (RowAt wj g1 b.length (frD (sqL a b) k)) := hR.out.congr (fun x hx => if_pos (by omega))
                have HG2 := Lib.hid hgj.out
                clear hR hgj hbx hL
                go_wp2_with fail
                go_roundw
                case rel => exact ⟨k + 1, HLT.out, by go_num, HG2.out, .inr ⟨by omega, g1, rfl, NG.out.2.1, HR2.out⟩⟩
                case measure => have := HLT.out; simp [intOf]; omega
      · have hka : k = a.length := by omega
        rcases hrow.out with ⟨h0, _⟩ | ⟨h0, g, rfl, hgw, hR⟩
        · have := N0.out; omega
        · have hc := hR.cell (k := b.length - 1) (by have := M0.out; omega)
          rw [hka, HV.out] at hc
          obtain ⟨m, hm⟩ : ∃ m, b.length - 1 = m := ⟨_, rfl⟩
          have hm2 : (b.length : Int) - 1 = (m : Int) := by have := M0.out; omega
          have hm3 : IntKind.i64.wrap (m : Int) = (m : Int) := IntWalk.i64_in _ (by omega)
          have hm4 : (m : Int) < (b.length : Int) := by omega
          have hm5 : m < b.length := by have := M0.out; omega
          rw [hm] at hc
          have HC := Lib.hid hg.out
          clear hrow hg hR hm hlt
          go_wp2_with fail
          go_ret2
          exact ⟨rfl, HC.out⟩
  · have hV0 : V = 0 := by rw [← hV.out]; unfold apV; rw [hE.out, if_neg e0]
    subst hV0
    have g1 : (E != 0) = true := by simpa using e0
    clear hV e0
    go_enter Try.func29, Try.ntmps29
    go_wp2_with fail
    refine (checkRoutes_is ao bo ac bc a b w HA.out HB.out LA.out LB.out hE).mono ?_; rintro e w1 ⟨rfl, hg1⟩
    go_wp2_with fail
    go_ret2
    exact ⟨rfl, hg1⟩
end Go.Proofs.Ytnjanjbjhbniiaa
