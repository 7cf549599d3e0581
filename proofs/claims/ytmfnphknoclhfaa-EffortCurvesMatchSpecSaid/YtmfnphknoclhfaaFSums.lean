/- The contract of the reference's sumsOf. -/
import Derived.Test.YtmfnphknoclhfaaFSumQ
import Derived.Deep.CutBlock
import Derived.Deep.DeepCutAuto
import Derived.Deep.AppendLies
namespace Go.Proofs.Ytmfnphknoclhfaa
open Go.RowKit

set_option maxRecDepth 100000 in
set_option maxHeartbeats 3200000 in
theorem sumsOf_is (ao : Option Addr) (cap : Nat) (l : List Int) (hl : (l.length : Int) ≤ 1000000) (HV : Hid (∀ k, k < l.length → -1 ≤ nthI l k ∧ nthI l k ≤ 1000000000)) (w : World) (hs : IntsAt w ao l) :
    Calls Try.prog 127 #[.slice ao l.length cap] w fun e w' => (∃ a1 c1 a2 c2, e = .returned (.agg #[.slice a1 (l.length + 1) c1, .slice a2 (l.length + 1) c2]) ∧ FInts w' a1 (l.length + 1) (svN l) ∧ FInts w' a2 (l.length + 1) (suN l)) ∧ w.grownBy w' none := by
  obtain ⟨i0, hi, hz0, hz1, hz2⟩ := info_parts einfo_int
  have HS := Lib.hid hs
  have HL := Lib.hid hl
  clear hs hl
  have HD0 : Hid _ := Lib.hid (d2_new w)
  generalize hw0 : w.alloc (.cells #[.slice none 0 0, .slice none 0 0] 164) = w0 at HD0
  have HW0 := Lib.hid hw0
  clear hw0
  go_enter Try.func127, Try.ntmps127
  go_wp2_with fail
  go_loopw [4, 5, 13] (fun s4 s5 iv wr => ∃ (k ga ca gb cb : Nat), k ≤ l.length ∧ s4 = .int .i64 (svN l k) ∧ s5 = .int .i64 (suN l k) ∧ iv = .int .i64 k ∧ Hid (D2 w0 (w.heap.size + 1 + 1 + 1) (.slice (some ⟨ga, 0, none⟩) (k + 1) ca) (.slice (some ⟨gb, 0, none⟩) (k + 1) cb) (.slice (some ⟨ga, 0, none⟩) (k + 1) ca) (.slice (some ⟨gb, 0, none⟩) (k + 1) cb) (k + 1) (k + 1) (rowVs (svN l) (k + 1)) (rowVs (suN l) (k + 1)) wr))
    (fun _ _ iv _ => l.length - (intOf iv).toNat)
  case atStart => exact ⟨0, _, 1, _, 1, Nat.zero_le _, rfl, rfl, rfl, by rw [HW0.out]; exact HD0.out⟩
  case round =>
    obtain ⟨k, ga, ca, gb, cb, hk, rfl, rfl, rfl, hd⟩ := hrel
    by_cases hlt : k < l.length
    · obtain ⟨b, off, rfl, hc⟩ := HS.out.at (by omega)
      have gW : w.grownBy wr none := grown_trans (by rw [← HW0.out]; exact World.grownBy_alloc _ _ _) hd.out.g
      have c0 := grown_cell gW (hc k hlt)
      have HB : Hid ((0 ≤ svN l k ∧ svN l k ≤ 1000000000 * k) ∧ 0 ≤ suN l k ∧ suN l k ≤ k) := sums_bds HL.out HV.out k hk
      have HX : Hid (-1 ≤ nthI l k ∧ nthI l k ≤ 1000000000) := HV.out k hlt
      have HN : Hid (svN l (k + 1) = (if nthI l k < 0 then svN l k else svN l k + nthI l k) ∧ suN l (k + 1) = (if nthI l k < 0 then suN l k + 1 else suN l k)) := ⟨rfl, rfl⟩
      have HRA : Hid (rowVs (svN l) (k + 1 + 1) = rowVs (svN l) (k + 1) ++ [.int .i64 (svN l (k + 1))]) := rowVs_succ _ _
      have HRB : Hid (rowVs (suN l) (k + 1 + 1) = rowVs (suN l) (k + 1) ++ [.int .i64 (suN l (k + 1))]) := rowVs_succ _ _
      have hk6 : (k : Int) ≤ 1000000 := by have := HL.out; omega
      have HBX : Hid (w0.heap.size ≤ w.heap.size + 1 + 1 + 1) := by show _ ≤ _; rw [← HW0.out]; simp
      generalize hRA2 : rowVs (svN l) (k + 1 + 1) = RA' at *
      generalize hRB2 : rowVs (suN l) (k + 1 + 1) = RB' at *
      have HRA2 := Lib.hid hRA2; have HRB2 := Lib.hid hRB2
      clear hRA2 hRB2
      generalize rowVs (svN l) (k + 1) = RA at *
      generalize rowVs (suN l) (k + 1) = RB at *
      generalize nthI l k = x at *
      generalize hsv : svN l k = sv at *
      generalize hsu : suN l k = su at *
      generalize hsv' : svN l (k + 1) = sv' at *
      generalize hsu' : suN l (k + 1) = su' at *
      have KSV := Lib.hid hsv; have KSU := Lib.hid hsu; have KSV' := Lib.hid hsv'; have KSU' := Lib.hid hsu'
      clear hsv hsu hsv' hsu' hc gW
      go_upto_if 18 with (fail)
      go_cut [4, 5] (fun s4 s5 wx => s4 = .int .i64 sv' ∧ s5 = .int .i64 su' ∧ wx = wr)
      case first =>
        by_cases hx : x < 0
        · have h1 := HN.out
          rw [if_pos hx, if_pos hx] at h1
          obtain ⟨e1, e2⟩ := h1
          obtain ⟨_, b2, b3⟩ := HB.out
          go_wp2_with fail
          go_meet
          exact ⟨by rw [e1], by rw [e2], rfl⟩
        · have h1 := HN.out
          rw [if_neg hx, if_neg hx] at h1
          obtain ⟨e1, e2⟩ := h1
          obtain ⟨⟨b0, b1⟩, b2, b3⟩ := HB.out
          obtain ⟨x0, x1⟩ := HX.out
          go_wp2_with fail
          go_meet
          exact ⟨by rw [e1], by rw [e2], rfl⟩
      case rest =>
        obtain ⟨rfl, rfl, rfl⟩ := hcut
        have hmx : Try.prog.follows .mixedOrders = true := by kernel_rfl
        have hD : D2 _ _ _ _ _ _ _ _ _ _ wc.drew := hd.out.grown (grown_drewN _ _ 1)
        go_wp2_with fail
        refine region_late (S := lateS (w.heap.size + 1 + 1 + 1) (.slice (some ⟨ga, 0, none⟩) (k + 1) ca) (.slice (some ⟨gb, 0, none⟩) (k + 1) cb) 11 13) hmx (hD.late _ _ _) (fun hC0 hS0 => ?_)
        clear hmx
        generalize wc.drew = W0 at *
        refine wpAnyS_take (i := 0) (v := .pointer (some ⟨w.heap.size + 1 + 1 + 1, 0, none⟩)) rfl (by kernel_rfl) (by kernel_rfl) (by kernel_rfl) (lateS_iff (by decide) (by decide)) (fun _ _ _ h => h) (Or.inl ⟨by rfl, fun V hV => ?_⟩) hC0 hS0 (fun hC1 hS1 => ?_)
        · skip
          clear hV
          go_simp
        clear hC0 hS0
        try simp only [Go.Act.put, List.setIfInBounds_toArray, List.set_cons_zero, List.set_cons_succ]
        refine wpAnyS_take (i := 1) (v := (.slice (some ⟨ga, 0, none⟩) (k + 1) ca)) rfl (by kernel_rfl) (by kernel_rfl) (by kernel_rfl) (lateS_iff (by decide) (by decide)) (fun _ _ _ h => h) (Or.inl ⟨by rfl, fun V hV => ?_⟩) hC1 hS1 (fun hC2 hS2 => ?_)
        · have q1 := late_c0 hV rfl (by kernel_rfl)
          clear hV
          go_simp
        clear hC1 hS1
        try simp only [Go.Act.put, List.setIfInBounds_toArray, List.set_cons_zero, List.set_cons_succ]
        refine wpAnyS_take (i := 2) (v := .int .i64 sv') rfl (by kernel_rfl) (by kernel_rfl) (by kernel_rfl) (lateS_iff (by decide) (by decide)) (fun _ _ _ h => h) (Or.inl ⟨by rfl, fun V hV => ?_⟩) hC2 hS2 (fun hC3 hS3 => ?_)
        · skip
          clear hV
          go_simp
        clear hC2 hS2
        try simp only [Go.Act.put, List.setIfInBounds_toArray, List.set_cons_zero, List.set_cons_succ]
        refine wpAnyS_take (i := 5) (v := .pointer (some ⟨w.heap.size + 1 + 1 + 1, 1, none⟩)) rfl (by kernel_rfl) (by kernel_rfl) (by kernel_rfl) (lateS_iff (by decide) (by decide)) (fun _ _ _ h => h) (Or.inl ⟨by rfl, fun V hV => ?_⟩) hC3 hS3 (fun hC4 hS4 => ?_)
        · skip
          clear hV
          go_simp
        clear hC3 hS3
        try simp only [Go.Act.put, List.setIfInBounds_toArray, List.set_cons_zero, List.set_cons_succ]
        refine wpAnyS_take (i := 6) (v := (.slice (some ⟨gb, 0, none⟩) (k + 1) cb)) rfl (by kernel_rfl) (by kernel_rfl) (by kernel_rfl) (lateS_iff (by decide) (by decide)) (fun _ _ _ h => h) (Or.inl ⟨by rfl, fun V hV => ?_⟩) hC4 hS4 (fun hC5 hS5 => ?_)
        · have q1 := late_c1 hV rfl (by kernel_rfl)
          clear hV
          go_simp
        clear hC4 hS4
        try simp only [Go.Act.put, List.setIfInBounds_toArray, List.set_cons_zero, List.set_cons_succ]
        refine wpAnyS_take (i := 7) (v := .int .i64 su') rfl (by kernel_rfl) (by kernel_rfl) (by kernel_rfl) (lateS_iff (by decide) (by decide)) (fun _ _ _ h => h) (Or.inl ⟨by rfl, fun V hV => ?_⟩) hC5 hS5 (fun hC6 hS6 => ?_)
        · skip
          clear hV
          go_simp
        clear hC5 hS5
        try simp only [Go.Act.put, List.setIfInBounds_toArray, List.set_cons_zero, List.set_cons_succ]
        refine wpAnyS_ready (rs := [3, 8]) (by kernel_rfl) (by simp) ?_
        refine AllReadyS.cons rfl hC6 (fun K hK => ?_) ?_
        ·
          go_simp
          have d7 := D2.grown hD (World.grownBy_alloc W0 (.cells #[.int .i64 sv'] 3) none)
          have oA7 := One1.new hD sv'
          refine hK.out _ _ (d7.late _ _ _) (fun hC7 hS7 => ?_)
          clear hK hC6 hS6 K hD
          try simp only [Go.Act.put, List.setIfInBounds_toArray, List.set_cons_zero, List.set_cons_succ]
          generalize World.alloc W0 (.cells #[.int .i64 sv'] 3) = w7 at *
          generalize W0.heap.size = g7 at *
          refine wpAnyS_ready (rs := [4, 8]) (by kernel_rfl) (by simp) ?_
          refine AllReadyS.cons rfl hC7 (fun K hK => ?_) ?_
          ·
            refine step_append_lies w7 (by rfl) _ _ 22 (by rfl) w0.heap.size 3 i0 (.int .i64 0) 1 8 Try.underlying22 hi hz0 hz1 hz2 rfl (by decide) (.slice (some ⟨ga, 0, none⟩) (k + 1) ca) (k + 1) RA (by rfl) d7.a ⟨g7, 0, none⟩ 1 1 [.int .i64 sv'] (by rfl) rfl oA7.cell (by intro u hu; simp at hu; subst hu; rfl) (by decide) (by unfold maxLen; omega) (by omega) d7.g.size _ rfl ?_
            intro h8 p8 w8 ho8 hg8 ha8 hl8
            rw [← HRA.out] at ho8
            have e8 := ha8.imp (fun e => Eq.symm e) (fun e => congrArg some e)
            have d8 := D2.appA d7 ho8 hg8 e8
            refine hK.out _ _ (d8.late _ _ _) (fun hC8 hS8 => ?_)
            clear hK hC7 hS7 K d7 oA7  ho8 hg8 ha8 e8 hl8
            try simp only [Go.Act.put, List.setIfInBounds_toArray, List.set_cons_zero, List.set_cons_succ]
            refine wpAnyS_take (i := 10) (v := .pointer (some ⟨w.heap.size + 1 + 1 + 1, 0, none⟩)) rfl (by kernel_rfl) (by kernel_rfl) (by kernel_rfl) (lateS_iff (by decide) (by decide)) (fun _ _ _ h => h) (Or.inl ⟨by rfl, fun V hV => ?_⟩) hC8 hS8 (fun hC9 hS9 => ?_)
            · skip
              clear hV
              go_simp
            clear hC8 hS8
            try simp only [Go.Act.put, List.setIfInBounds_toArray, List.set_cons_zero, List.set_cons_succ]
            refine wpAnyS_ready (rs := [8]) (by kernel_rfl) (by simp) ?_
            refine AllReadyS.cons rfl hC9 (fun K hK => ?_) AllReadyS.nil
            go_simp
            have d10 := D2.grown d8 (World.grownBy_alloc w8 (.cells #[.int .i64 su'] 3) none)
            have oB10 := One1.new d8 su'
            refine hK.out _ _ (d10.late _ _ _) (fun hC10 hS10 => ?_)
            clear hK hC9 hS9 K d8
            try simp only [Go.Act.put, List.setIfInBounds_toArray, List.set_cons_zero, List.set_cons_succ]
            generalize World.alloc w8 (.cells #[.int .i64 su'] 3) = w10 at *
            generalize w8.heap.size = g10 at *
            refine wpAnyS_ready (rs := [9]) (by kernel_rfl) (by simp) ?_
            refine AllReadyS.cons rfl hC10 (fun K hK => ?_) AllReadyS.nil
            refine step_append_lies w10 (by rfl) _ _ 22 (by rfl) w0.heap.size 3 i0 (.int .i64 0) 1 8 Try.underlying22 hi hz0 hz1 hz2 rfl (by decide) (.slice (some ⟨gb, 0, none⟩) (k + 1) cb) (k + 1) RB (by rfl) d10.b ⟨g10, 0, none⟩ 1 1 [.int .i64 su'] (by rfl) rfl oB10.cell (by intro u hu; simp at hu; subst hu; rfl) (by decide) (by unfold maxLen; omega) (by omega) d10.g.size _ rfl ?_
            intro h11 p11 w11 ho11 hg11 ha11 hl11
            rw [← HRB.out] at ho11
            have e11 := ha11.imp (fun e => Eq.symm e) (fun e => congrArg some e)
            have d11 := D2.appB d10 ho11 hg11 e11
            refine hK.out _ _ (d11.late _ _ _) (fun hC11 hS11 => ?_)
            clear hK hC10 hS10 K d10 oB10  ho11 hg11 ha11 e11 hl11
            try simp only [Go.Act.put, List.setIfInBounds_toArray, List.set_cons_zero, List.set_cons_succ]
            refine wpAnyS_ready (rs := [11]) (by kernel_rfl) (by simp) ?_
            refine AllReadyS.cons rfl hC11 (fun K hK => ?_) AllReadyS.nil
            have c12 := d11.c0
            have f12 := d11.fr 0
            have d12 := d11.set0 HBX.out (.slice (some ⟨h8, 0, none⟩) (k + 1 + 1) p8)
            go_simp
            refine hK.out _ _ (d12.late1 _ _ (by rfl)) (fun hC12 hS12 => ?_)
            clear hK K hC11 hS11 c12 f12 d11
            generalize World.setCell w11 ⟨w.heap.size + 1 + 1 + 1, 0, none⟩ (.slice (some ⟨h8, 0, none⟩) (k + 1 + 1) p8) = w12 at *
            try simp only [Go.Act.put, List.setIfInBounds_toArray, List.set_cons_zero, List.set_cons_succ]
            refine wpAnyS_take (i := 12) (v := .pointer (some ⟨w.heap.size + 1 + 1 + 1, 1, none⟩)) rfl (by kernel_rfl) (by kernel_rfl) (by kernel_rfl) (lateS_iff (by decide) (by decide)) (fun _ _ _ h => h) (Or.inl ⟨by rfl, fun V hV => ?_⟩) hC12 hS12 (fun hC13 hS13 => ?_)
            · skip
              clear hV
              go_simp
            clear hC12 hS12
            try simp only [Go.Act.put, List.setIfInBounds_toArray, List.set_cons_zero, List.set_cons_succ]
            refine wpAnyS_ready (rs := [13]) (by kernel_rfl) (by simp) ?_
            refine AllReadyS.cons rfl hC13 (fun K hK => ?_) AllReadyS.nil
            have c14 := d12.c1
            have f14 := d12.fr 1
            have d14 := d12.set1 HBX.out (.slice (some ⟨h11, 0, none⟩) (k + 1 + 1) p11)
            go_simp
            refine hK.out _ _ (late_all (by rfl) (by rfl)) (fun hC14 hS14 => ?_)
            clear hK K hC13 hS13 c14 f14 d12
            generalize World.setCell w12 ⟨w.heap.size + 1 + 1 + 1, 1, none⟩ (.slice (some ⟨h11, 0, none⟩) (k + 1 + 1) p11) = w14 at *
            try simp only [Go.Act.put, List.setIfInBounds_toArray, List.set_cons_zero, List.set_cons_succ]
            refine wpAnyS_done (by kernel_rfl) ?_ _
            clear hC14 hS14
            have HD := Lib.hid d14
            clear d14
            go_wp2_with fail
            go_roundw
            case rel => exact ⟨k + 1, h8, p8, h11, p11, by omega, by rw [KSV'.out], by rw [KSU'.out], by go_num, (by rw [HRA2.out, HRB2.out]; exact HD.out)⟩
            case measure => simp [intOf]; omega
          refine AllReadyS.cons rfl hC7 (fun K hK => ?_) AllReadyS.nil
          go_simp
          have d15 := D2.grown d7 (World.grownBy_alloc w7 (.cells #[.int .i64 su'] 3) none)
          have oB15 := One1.new d7 su'
          have oA15 := One1.alloc oA7 (.cells #[.int .i64 su'] 3)
          refine hK.out _ _ (d15.late _ _ _) (fun hC15 hS15 => ?_)
          clear hK hC7 hS7 K d7 oA7
          try simp only [Go.Act.put, List.setIfInBounds_toArray, List.set_cons_zero, List.set_cons_succ]
          generalize World.alloc w7 (.cells #[.int .i64 su'] 3) = w15 at *
          generalize w7.heap.size = g15 at *
          refine wpAnyS_ready (rs := [4]) (by kernel_rfl) (by simp) ?_
          refine AllReadyS.cons rfl hC15 (fun K hK => ?_) AllReadyS.nil
          refine step_append_lies w15 (by rfl) _ _ 22 (by rfl) w0.heap.size 3 i0 (.int .i64 0) 1 8 Try.underlying22 hi hz0 hz1 hz2 rfl (by decide) (.slice (some ⟨ga, 0, none⟩) (k + 1) ca) (k + 1) RA (by rfl) d15.a ⟨g7, 0, none⟩ 1 1 [.int .i64 sv'] (by rfl) rfl oA15.cell (by intro u hu; simp at hu; subst hu; rfl) (by decide) (by unfold maxLen; omega) (by omega) d15.g.size _ rfl ?_
          intro h16 p16 w16 ho16 hg16 ha16 hl16
          rw [← HRA.out] at ho16
          have e16 := ha16.imp (fun e => Eq.symm e) (fun e => congrArg some e)
          have d16 := D2.appA d15 ho16 hg16 e16
          have oB16 := One1.appA (v' := .slice (some ⟨h16, 0, none⟩) (k + 1 + 1) p16) oB15 hg16 e16
          refine hK.out _ _ (d16.late _ _ _) (fun hC16 hS16 => ?_)
          clear hK hC15 hS15 K d15 oA15 oB15 ho16 hg16 ha16 e16 hl16
          try simp only [Go.Act.put, List.setIfInBounds_toArray, List.set_cons_zero, List.set_cons_succ]
          refine wpAnyS_take (i := 10) (v := .pointer (some ⟨w.heap.size + 1 + 1 + 1, 0, none⟩)) rfl (by kernel_rfl) (by kernel_rfl) (by kernel_rfl) (lateS_iff (by decide) (by decide)) (fun _ _ _ h => h) (Or.inl ⟨by rfl, fun V hV => ?_⟩) hC16 hS16 (fun hC17 hS17 => ?_)
          · skip
            clear hV
            go_simp
          clear hC16 hS16
          try simp only [Go.Act.put, List.setIfInBounds_toArray, List.set_cons_zero, List.set_cons_succ]
          refine wpAnyS_ready (rs := [9]) (by kernel_rfl) (by simp) ?_
          refine AllReadyS.cons rfl hC17 (fun K hK => ?_) AllReadyS.nil
          refine step_append_lies w16 (by rfl) _ _ 22 (by rfl) w0.heap.size 3 i0 (.int .i64 0) 1 8 Try.underlying22 hi hz0 hz1 hz2 rfl (by decide) (.slice (some ⟨gb, 0, none⟩) (k + 1) cb) (k + 1) RB (by rfl) d16.b ⟨g15, 0, none⟩ 1 1 [.int .i64 su'] (by rfl) rfl oB16.cell (by intro u hu; simp at hu; subst hu; rfl) (by decide) (by unfold maxLen; omega) (by omega) d16.g.size _ rfl ?_
          intro h18 p18 w18 ho18 hg18 ha18 hl18
          rw [← HRB.out] at ho18
          have e18 := ha18.imp (fun e => Eq.symm e) (fun e => congrArg some e)
          have d18 := D2.appB d16 ho18 hg18 e18
          refine hK.out _ _ (d18.late _ _ _) (fun hC18 hS18 => ?_)
          clear hK hC17 hS17 K d16 oB16  ho18 hg18 ha18 e18 hl18
          try simp only [Go.Act.put, List.setIfInBounds_toArray, List.set_cons_zero, List.set_cons_succ]
          refine wpAnyS_ready (rs := [11]) (by kernel_rfl) (by simp) ?_
          refine AllReadyS.cons rfl hC18 (fun K hK => ?_) AllReadyS.nil
          have c19 := d18.c0
          have f19 := d18.fr 0
          have d19 := d18.set0 HBX.out (.slice (some ⟨h16, 0, none⟩) (k + 1 + 1) p16)
          go_simp
          refine hK.out _ _ (d19.late1 _ _ (by rfl)) (fun hC19 hS19 => ?_)
          clear hK K hC18 hS18 c19 f19 d18
          generalize World.setCell w18 ⟨w.heap.size + 1 + 1 + 1, 0, none⟩ (.slice (some ⟨h16, 0, none⟩) (k + 1 + 1) p16) = w19 at *
          try simp only [Go.Act.put, List.setIfInBounds_toArray, List.set_cons_zero, List.set_cons_succ]
          refine wpAnyS_take (i := 12) (v := .pointer (some ⟨w.heap.size + 1 + 1 + 1, 1, none⟩)) rfl (by kernel_rfl) (by kernel_rfl) (by kernel_rfl) (lateS_iff (by decide) (by decide)) (fun _ _ _ h => h) (Or.inl ⟨by rfl, fun V hV => ?_⟩) hC19 hS19 (fun hC20 hS20 => ?_)
          · skip
            clear hV
            go_simp
          clear hC19 hS19
          try simp only [Go.Act.put, List.setIfInBounds_toArray, List.set_cons_zero, List.set_cons_succ]
          refine wpAnyS_ready (rs := [13]) (by kernel_rfl) (by simp) ?_
          refine AllReadyS.cons rfl hC20 (fun K hK => ?_) AllReadyS.nil
          have c21 := d19.c1
          have f21 := d19.fr 1
          have d21 := d19.set1 HBX.out (.slice (some ⟨h18, 0, none⟩) (k + 1 + 1) p18)
          go_simp
          refine hK.out _ _ (late_all (by rfl) (by rfl)) (fun hC21 hS21 => ?_)
          clear hK K hC20 hS20 c21 f21 d19
          generalize World.setCell w19 ⟨w.heap.size + 1 + 1 + 1, 1, none⟩ (.slice (some ⟨h18, 0, none⟩) (k + 1 + 1) p18) = w21 at *
          try simp only [Go.Act.put, List.setIfInBounds_toArray, List.set_cons_zero, List.set_cons_succ]
          refine wpAnyS_done (by kernel_rfl) ?_ _
          clear hC21 hS21
          have HD := Lib.hid d21
          clear d21
          go_wp2_with fail
          go_roundw
          case rel => exact ⟨k + 1, h16, p16, h18, p18, by omega, by rw [KSV'.out], by rw [KSU'.out], by go_num, (by rw [HRA2.out, HRB2.out]; exact HD.out)⟩
          case measure => simp [intOf]; omega
        refine AllReadyS.cons rfl hC6 (fun K hK => ?_) AllReadyS.nil
        go_simp
        have d22 := D2.grown hD (World.grownBy_alloc W0 (.cells #[.int .i64 su'] 3) none)
        have oB22 := One1.new hD su'
        refine hK.out _ _ (d22.late _ _ _) (fun hC22 hS22 => ?_)
        clear hK hC6 hS6 K hD
        try simp only [Go.Act.put, List.setIfInBounds_toArray, List.set_cons_zero, List.set_cons_succ]
        generalize World.alloc W0 (.cells #[.int .i64 su'] 3) = w22 at *
        generalize W0.heap.size = g22 at *
        refine wpAnyS_ready (rs := [3]) (by kernel_rfl) (by simp) ?_
        refine AllReadyS.cons rfl hC22 (fun K hK => ?_) AllReadyS.nil
        go_simp
        have d23 := D2.grown d22 (World.grownBy_alloc w22 (.cells #[.int .i64 sv'] 3) none)
        have oA23 := One1.new d22 sv'
        have oB23 := One1.alloc oB22 (.cells #[.int .i64 sv'] 3)
        refine hK.out _ _ (d23.late _ _ _) (fun hC23 hS23 => ?_)
        clear hK hC22 hS22 K d22 oB22
        try simp only [Go.Act.put, List.setIfInBounds_toArray, List.set_cons_zero, List.set_cons_succ]
        generalize World.alloc w22 (.cells #[.int .i64 sv'] 3) = w23 at *
        generalize w22.heap.size = g23 at *
        refine wpAnyS_ready (rs := [4]) (by kernel_rfl) (by simp) ?_
        refine AllReadyS.cons rfl hC23 (fun K hK => ?_) AllReadyS.nil
        refine step_append_lies w23 (by rfl) _ _ 22 (by rfl) w0.heap.size 3 i0 (.int .i64 0) 1 8 Try.underlying22 hi hz0 hz1 hz2 rfl (by decide) (.slice (some ⟨ga, 0, none⟩) (k + 1) ca) (k + 1) RA (by rfl) d23.a ⟨g23, 0, none⟩ 1 1 [.int .i64 sv'] (by rfl) rfl oA23.cell (by intro u hu; simp at hu; subst hu; rfl) (by decide) (by unfold maxLen; omega) (by omega) d23.g.size _ rfl ?_
        intro h24 p24 w24 ho24 hg24 ha24 hl24
        rw [← HRA.out] at ho24
        have e24 := ha24.imp (fun e => Eq.symm e) (fun e => congrArg some e)
        have d24 := D2.appA d23 ho24 hg24 e24
        have oB24 := One1.appA (v' := .slice (some ⟨h24, 0, none⟩) (k + 1 + 1) p24) oB23 hg24 e24
        refine hK.out _ _ (d24.late _ _ _) (fun hC24 hS24 => ?_)
        clear hK hC23 hS23 K d23 oA23 oB23 ho24 hg24 ha24 e24 hl24
        try simp only [Go.Act.put, List.setIfInBounds_toArray, List.set_cons_zero, List.set_cons_succ]
        refine wpAnyS_take (i := 10) (v := .pointer (some ⟨w.heap.size + 1 + 1 + 1, 0, none⟩)) rfl (by kernel_rfl) (by kernel_rfl) (by kernel_rfl) (lateS_iff (by decide) (by decide)) (fun _ _ _ h => h) (Or.inl ⟨by rfl, fun V hV => ?_⟩) hC24 hS24 (fun hC25 hS25 => ?_)
        · skip
          clear hV
          go_simp
        clear hC24 hS24
        try simp only [Go.Act.put, List.setIfInBounds_toArray, List.set_cons_zero, List.set_cons_succ]
        refine wpAnyS_ready (rs := [9]) (by kernel_rfl) (by simp) ?_
        refine AllReadyS.cons rfl hC25 (fun K hK => ?_) AllReadyS.nil
        refine step_append_lies w24 (by rfl) _ _ 22 (by rfl) w0.heap.size 3 i0 (.int .i64 0) 1 8 Try.underlying22 hi hz0 hz1 hz2 rfl (by decide) (.slice (some ⟨gb, 0, none⟩) (k + 1) cb) (k + 1) RB (by rfl) d24.b ⟨g22, 0, none⟩ 1 1 [.int .i64 su'] (by rfl) rfl oB24.cell (by intro u hu; simp at hu; subst hu; rfl) (by decide) (by unfold maxLen; omega) (by omega) d24.g.size _ rfl ?_
        intro h26 p26 w26 ho26 hg26 ha26 hl26
        rw [← HRB.out] at ho26
        have e26 := ha26.imp (fun e => Eq.symm e) (fun e => congrArg some e)
        have d26 := D2.appB d24 ho26 hg26 e26
        refine hK.out _ _ (d26.late _ _ _) (fun hC26 hS26 => ?_)
        clear hK hC25 hS25 K d24 oB24  ho26 hg26 ha26 e26 hl26
        try simp only [Go.Act.put, List.setIfInBounds_toArray, List.set_cons_zero, List.set_cons_succ]
        refine wpAnyS_ready (rs := [11]) (by kernel_rfl) (by simp) ?_
        refine AllReadyS.cons rfl hC26 (fun K hK => ?_) AllReadyS.nil
        have c27 := d26.c0
        have f27 := d26.fr 0
        have d27 := d26.set0 HBX.out (.slice (some ⟨h24, 0, none⟩) (k + 1 + 1) p24)
        go_simp
        refine hK.out _ _ (d27.late1 _ _ (by rfl)) (fun hC27 hS27 => ?_)
        clear hK K hC26 hS26 c27 f27 d26
        generalize World.setCell w26 ⟨w.heap.size + 1 + 1 + 1, 0, none⟩ (.slice (some ⟨h24, 0, none⟩) (k + 1 + 1) p24) = w27 at *
        try simp only [Go.Act.put, List.setIfInBounds_toArray, List.set_cons_zero, List.set_cons_succ]
        refine wpAnyS_take (i := 12) (v := .pointer (some ⟨w.heap.size + 1 + 1 + 1, 1, none⟩)) rfl (by kernel_rfl) (by kernel_rfl) (by kernel_rfl) (lateS_iff (by decide) (by decide)) (fun _ _ _ h => h) (Or.inl ⟨by rfl, fun V hV => ?_⟩) hC27 hS27 (fun hC28 hS28 => ?_)
        · skip
          clear hV
          go_simp
        clear hC27 hS27
        try simp only [Go.Act.put, List.setIfInBounds_toArray, List.set_cons_zero, List.set_cons_succ]
        refine wpAnyS_ready (rs := [13]) (by kernel_rfl) (by simp) ?_
        refine AllReadyS.cons rfl hC28 (fun K hK => ?_) AllReadyS.nil
        have c29 := d27.c1
        have f29 := d27.fr 1
        have d29 := d27.set1 HBX.out (.slice (some ⟨h26, 0, none⟩) (k + 1 + 1) p26)
        go_simp
        refine hK.out _ _ (late_all (by rfl) (by rfl)) (fun hC29 hS29 => ?_)
        clear hK K hC28 hS28 c29 f29 d27
        generalize World.setCell w27 ⟨w.heap.size + 1 + 1 + 1, 1, none⟩ (.slice (some ⟨h26, 0, none⟩) (k + 1 + 1) p26) = w29 at *
        try simp only [Go.Act.put, List.setIfInBounds_toArray, List.set_cons_zero, List.set_cons_succ]
        refine wpAnyS_done (by kernel_rfl) ?_ _
        clear hC29 hS29
        have HD := Lib.hid d29
        clear d29
        go_wp2_with fail
        go_roundw
        case rel => exact ⟨k + 1, h24, p24, h26, p26, by omega, by rw [KSV'.out], by rw [KSU'.out], by go_num, (by rw [HRA2.out, HRB2.out]; exact HD.out)⟩
        case measure => simp [intOf]; omega
    · obtain rfl : k = l.length := by omega
      have hd' := hd.out
      have c0 := hd'.c0; have c1 := hd'.c1
      have kr : wr.heap[w.heap.size]? = some (.cells #[.slice none 0 0, .slice none 0 0] 164 (0, 0)) := by
        rw [hd'.g.block _ (by rw [← HW0.out]; simp) (by simp), ← HW0.out]; exact heap_alloc_new w _
      have r0 : wr.cell? ⟨w.heap.size, 0, none⟩ = some (.slice none 0 0) := by simp [World.cell?, kr]
      have r1 : wr.cell? ⟨w.heap.size, 1, none⟩ = some (.slice none 0 0) := by simp [World.cell?, kr]
      have f0 : wr.frozen? ⟨w.heap.size, 0, none⟩ = false := by simp [World.frozen?, kr]
      have f1 : wr.frozen? ⟨w.heap.size, 1, none⟩ = false := by simp [World.frozen?, kr]
      have s0 : w0.heap.size = w.heap.size + 1 := by rw [← HW0.out]; simp
      have ne : ∀ {r : Value} {n : Nat} {xs : List Value}, wr.ownsRow w0.heap.size 3 1 r n xs → r.ownBlock ≠ some w.heap.size := fun h e => by
        have := (h.lt _ e).1; omega
      have HA : Hid (∀ u v, FInts ((wr.setCell ⟨w.heap.size, 0, none⟩ u).setCell ⟨w.heap.size, 1, none⟩ v) (some ⟨ga, 0, none⟩) (l.length + 1) (svN l)) := fun u v => by
        obtain ⟨ao', cap', e, hf⟩ := own_fints ((hd'.a.kept (setc_grown wr w.heap.size 0 u) (.inr (ne hd'.a))).kept (setc_grown _ w.heap.size 1 v) (.inr (ne hd'.a)))
        injection e with e1 _ _
        rw [e1]; exact hf
      have HB : Hid (∀ u v, FInts ((wr.setCell ⟨w.heap.size, 0, none⟩ u).setCell ⟨w.heap.size, 1, none⟩ v) (some ⟨gb, 0, none⟩) (l.length + 1) (suN l)) := fun u v => by
        obtain ⟨ao', cap', e, hf⟩ := own_fints ((hd'.b.kept (setc_grown wr w.heap.size 0 u) (.inr (ne hd'.b))).kept (setc_grown _ w.heap.size 1 v) (.inr (ne hd'.b)))
        injection e with e1 _ _
        rw [e1]; exact hf
      have HG : Hid (∀ u v, w.grownBy ((wr.setCell ⟨w.heap.size, 0, none⟩ u).setCell ⟨w.heap.size, 1, none⟩ v) none) := fun u v => by
        have g0 : w.grownBy wr none := grown_trans (by rw [← HW0.out]; exact World.grownBy_alloc _ _ _) hd'.g
        have g1 := setc_grown wr w.heap.size 0 u
        have g2 := setc_grown (wr.setCell ⟨w.heap.size, 0, none⟩ u) w.heap.size 1 v
        have q := g1.trans g2
        exact ⟨q.os.trans g0.os, q.tape.trans g0.tape, q.output.trans g0.output, Nat.le_trans g0.size q.size, fun j hj _ => by
          rw [q.block j (Nat.lt_of_lt_of_le hj g0.size) (fun e => by injection e; omega)]; exact g0.block j hj (by simp)⟩
      clear hd' ne s0 hd kr HD0 HV
      go_wp2_with fail
      refine bodyPost_ret (v := .agg #[.slice (some ⟨ga, 0, none⟩) (l.length + 1) ca, .slice (some ⟨gb, 0, none⟩) (l.length + 1) cb]) (by simp [results, Try.results127, go_sem, r0, r1]) rfl ⟨⟨_, _, _, _, rfl, HA.out _ _, HB.out _ _⟩, HG.out _ _⟩
end Go.Proofs.Ytmfnphknoclhfaa
