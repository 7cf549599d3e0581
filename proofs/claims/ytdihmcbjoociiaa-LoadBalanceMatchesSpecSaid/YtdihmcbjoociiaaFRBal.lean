/- The contract of the reference's Balance. -/
import Derived.Test.YtdihmcbjoociiaaFBalP
import Derived.Test.YtdihmcbjoociiaaFPred
namespace Go.Proofs.Ytdihmcbjoociiaa
open Go.RowKit

set_option maxRecDepth 100000 in
set_option maxHeartbeats 3200000 in
theorem rbalance_any (ao : Option Addr) (cap : Nat) (l : List Int) (hl : (l.length : Int) ≤ 9223372036854775807) (power work : Int) (w : World) (hs : IntsAt w ao l) {n : Nat} {E : Int} (hE : Hid (balE l power work = E)) (hn : Hid (balN l power work = n)) :
    Calls Try.prog 40 #[.slice ao l.length cap, .int .i64 power, .int .i64 work] w fun e w' => (∃ ao' cap', e = .returned (.tuple #[.slice ao' n cap', .int .i64 E]) ∧ FInts w' ao' n (fun j => blN l power work (j + 1))) ∧ w.grownBy w' none := by
  obtain ⟨i0, hi, hz0, hz1, hz2⟩ := info_parts einfo_int
  have HS := Lib.hid hs
  obtain ⟨se, hse⟩ : ∃ e, streamE l = e := ⟨_, rfl⟩
  have HSE := Lib.hid hse
  clear hs
  by_cases h0 : se = 0
  · subst h0
    have hll := (stream_ok hse).1
    have HSX := Lib.hid (stream_ok hse).2
    have HE1 : Hid ((if eachE (-1) 10000 (l.drop 0) = 0 then (if (1 ≤ power ∧ power ≤ 10000) ∧ 1 ≤ work ∧ work ≤ 1000000 then 0 else 9) else 9) = E) := by
      show _ = _; rw [← hE.out]; unfold balE; rw [hse, if_pos rfl]; rfl
    clear hse
    go_enter Try.func40, Try.ntmps40
    go_wp2_with (go_at_call 75; refine (rcheckStream_any _ _ _ hl _ HS.out HSE).mono ?_; rintro e w1 ⟨rfl, rfl⟩)
    go_loopw [22] (fun iv wr => ∃ k : Nat, k ≤ l.length ∧ iv = .int .i64 k ∧ w = wr ∧ Hid ((if eachE (-1) 10000 (l.drop k) = 0 then (if (1 ≤ power ∧ power ≤ 10000) ∧ 1 ≤ work ∧ work ≤ 1000000 then 0 else 9) else 9) = E))
      (fun iv _ => l.length - (intOf iv).toNat)
    case atStart => exact ⟨0, Nat.zero_le _, rfl, by first | rfl | trivial, HE1.out⟩
    case round =>
      obtain ⟨k, hk, rfl, rfl, hw⟩ := hrel
      by_cases hlt : k < l.length
      · obtain ⟨b, off, rfl, hc⟩ := HS.out.at (by omega)
        have c0 := hc k hlt
        have hx := HSX.out k hlt
        have he := eachE_at (lo := -1) (hi := 10000) hlt
        have hww := hw.out
        clear hc hw
        by_cases a1 : nthI l k ≤ 10000
        · rw [if_pos ⟨hx.1, a1⟩] at he
          rw [he] at hww
          have HW := Lib.hid hww
          clear he hww
          generalize nthI l k = x at *
          go_wp2_with fail
          go_roundw
          case rel => exact ⟨k + 1, by omega, by go_num, by first | rfl | trivial, HW.out⟩
          case measure => simp [intOf]; omega
        · rw [if_neg (fun h => a1 h.2)] at he
          rw [he, if_neg (by decide)] at hww
          subst hww
          obtain rfl : n = 0 := by rw [← hn.out]; exact balN_not hE.out (by decide)
          clear he hE hn
          generalize nthI l k = x at *
          go_wp2_with fail
          go_ret2
          first | exact ⟨⟨_, _, rfl, FInts.none _ _ _⟩, grown_refl _ _⟩ | exact ⟨⟨_, ⟨_, rfl⟩, FInts.none _ _ _⟩, grown_refl _ _⟩
      · have hww := hw.out
        rw [eachE_end (by omega), if_pos rfl] at hww
        clear hw
        by_cases h2 : 1 ≤ power ∧ power ≤ 10000
        · by_cases h3 : 1 ≤ work ∧ work ≤ 1000000
          · rw [if_pos ⟨h2, h3⟩] at hww
            subst hww
            have HOK : Hid (BalOk l power work) := bal_ok hE.out
            obtain rfl : n = l.length := by rw [← hn.out]; exact balN_ok hE.out
            have H2 := Lib.hid h2; have H3 := Lib.hid h3
            clear h2 h3 hE hn HE1
            go_wp2_with (first
              | (go_at_call_of 79 (Value.int IntKind.i64 10000); refine (routside_no _ _ _ (by have := H2.out; omega) _).mono ?_; rintro e w1 ⟨rfl, rfl⟩)
              | (go_at_call_of 79 (Value.int IntKind.i64 1000000); refine (routside_no _ _ _ (by have := H3.out; omega) _).mono ?_; rintro e w1 ⟨rfl, rfl⟩))
            go_loopw [11, 12, 38] (fun sv ov iv wr => ∃ (k : Nat) (v : Value), k ≤ l.length ∧ sv = .int .i64 (blN l power work k) ∧ v = ov ∧ iv = .int .i64 k ∧ Hid (w.grownBy wr none) ∧ Hid (wr.ownsRow w.heap.size 3 1 v k (rowVs (fun j => blN l power work (j + 1)) k)))
              (fun _ _ iv _ => l.length - (intOf iv).toNat)
            case atStart => exact ⟨0, _, Nat.zero_le _, rfl, rfl, rfl, grown_refl _ _, World.ownsRow_nil _ _ _ _⟩
            case round =>
              obtain ⟨k, v, hk, rfl, rfl, rfl, hg, hown⟩ := hrel
              by_cases hlt : k < l.length
              · obtain ⟨b, off, rfl, hc⟩ := HS.out.at (by omega)
                have c0 := grown_cell hg.out (hc k hlt)
                have hbd := blN_bd HOK.out k hk
                have hxb := HOK.out.each k hlt
                have HNX : Hid (blN l power work (k + 1) = balF power work (blN l power work k) (nthI l k)) := rfl
                have HRV : Hid (rowVs (fun j => blN l power work (j + 1)) (k + 1) = rowVs (fun j => blN l power work (j + 1)) k ++ [.int .i64 (blN l power work (k + 1))]) := rowVs_succ _ _
                generalize hR1 : rowVs (fun j => blN l power work (j + 1)) (k + 1) = R1 at *
                have HR1 := Lib.hid hR1
                clear hR1
                generalize rowVs (fun j => blN l power work (j + 1)) k = R0 at *
                generalize nthI l k = x at *
                generalize blN l power work k = s at *
                generalize hs' : blN l power work (k + 1) = s' at *
                have HS' := Lib.hid hs'
                clear hs' hc 
                have HCN : Hid (∀ j u, [Value.int .i64 s'][j]? = some u → (wr.alloc (.cells #[.int .i64 s'] 3)).cell? ((⟨wr.heap.size, 0, none⟩ : Addr).add j) = some u) := cell_one_new wr (.int .i64 s') 3
                have SZ := hg.out.size
                have hnx := HNX.out
                unfold balF at hnx
                have hpp := HOK.out.p; have hww := HOK.out.w; have hll := HOK.out.len
                have hkk : (k : Int) ≤ 1000000 := by omega
                by_cases a1 : power < x
                · rw [if_pos a1] at hnx
                  have hs2 : s - (x - power) = s' := hnx.symm
                  have a0 : ¬ x < 0 := by omega
                  have hmx : max x 0 = x := by omega
                  clear hnx
                  go_wp2_with (first | (at_builtin; refine wpList_append_own _ rfl _ _ 28 rfl w.heap.size 3 i0 (.int .i64 0) 1 8 Try.underlying28 hi hz0 hz1 hz2 rfl (by decide) _ _ _ rfl (hown.out.alloc _) ⟨wr.heap.size, 0, none⟩ 1 1 [.int .i64 s'] rfl rfl (HCN.out) (by intro u hu; simp at hu; subst hu; rfl) (by unfold maxLen; omega) (by omega) (by simp; omega) ?_; intro v' w2 hown' hgrow' _))
                  have hlt2 := hown.out.lt
                  have GN : Hid (w.grownBy w2 none) := fgrown_own hg.out hgrow' (fun g e => (hlt2 g e).1)
                  have HO2 : Hid (w2.ownsRow w.heap.size 3 1 v' (k + 1) R1) := by
                    show World.ownsRow _ _ _ _ _ _ _; rw [HRV.out]; exact hown'
                  clear hown' hgrow' hlt2 SZ
                  go_wp2_with fail
                  go_roundw
                  case rel => exact ⟨k + 1, _, by omega, by rw [HS'.out], rfl, by go_num, GN.out, (by show World.ownsRow _ _ _ _ _ _ _; rw [HR1.out]; exact HO2.out)⟩
                  case measure => simp [intOf]; omega
                · rw [if_neg a1] at hnx
                  by_cases a0 : x < 0
                  · have a3 : ¬ power < 0 := by omega
                    have hmx : max x 0 = 0 := by omega
                    rw [hmx] at hnx
                    have hf := fill_bd (power := power) (m := 0) (left := s) (work := work) hpp.2 (by omega) (by omega) hbd.1 (by omega) hww.1
                    obtain ⟨X, hX⟩ : ∃ X, (power - 0) * (work - s) = X := ⟨_, rfl⟩
                    rw [hX] at hnx hf
                    obtain ⟨x0, x1⟩ := hf
                    have hX0 : power * (work - s) = X := by rw [← hX]; rw [Int.sub_zero]
                    have rx0 : IntKind.i64.wrap (power * (work - s)) = X := by rw [hX0]; exact IntWalk.i64_in _ (by omega)
                    have rx : IntKind.i64.wrap ((power - 0) * (work - s)) = X := by rw [hX]; exact IntWalk.i64_in _ (by omega)
                    obtain ⟨e0, e1⟩ := ediv_bd x0 hww.1
                    obtain ⟨D, hD⟩ : ∃ D, X / work = D := ⟨_, rfl⟩
                    have hDt : X.tdiv work = D := by rw [Int.tdiv_eq_ediv_of_nonneg x0]; exact hD
                    have HD := Lib.hid hD
                    rw [hD] at hnx e0 e1
                    have x2 : X ≤ 200000000000000 := by omega
                    have ne0 : ¬ work = 0 := by omega
                    have ne1 : (work == 0) = false := by rw [beq_eq_false_iff_ne]; omega
                    have HM1 : min (s + D) work = s' := by omega
                    have HM2 : min work (s + D) = s' := by omega
                    clear hX x1 hnx hX0
                    go_wp2_with (first | (go_at_call 100; refine (rfloor_is X work ⟨by omega, by omega⟩ ⟨by omega, by omega⟩ _ HD).mono ?_; rintro e w7 ⟨rfl, rfl⟩) | (at_builtin; refine wpList_append_own _ rfl _ _ 28 rfl w.heap.size 3 i0 (.int .i64 0) 1 8 Try.underlying28 hi hz0 hz1 hz2 rfl (by decide) _ _ _ rfl (hown.out.alloc _) ⟨wr.heap.size, 0, none⟩ 1 1 [.int .i64 s'] rfl rfl (HCN.out) (by intro u hu; simp at hu; subst hu; rfl) (by unfold maxLen; omega) (by omega) (by simp; omega) ?_; intro v' w2 hown' hgrow' _))
                    have hlt2 := hown.out.lt
                    have GN : Hid (w.grownBy w2 none) := fgrown_own hg.out hgrow' (fun g e => (hlt2 g e).1)
                    have HO2 : Hid (w2.ownsRow w.heap.size 3 1 v' (k + 1) R1) := by
                      show World.ownsRow _ _ _ _ _ _ _; rw [HRV.out]; exact hown'
                    clear hown' hgrow' hlt2 SZ
                    go_wp2_with fail
                    go_roundw
                    case rel => exact ⟨k + 1, _, by omega, by rw [HS'.out], rfl, by go_num, GN.out, (by show World.ownsRow _ _ _ _ _ _ _; rw [HR1.out]; exact HO2.out)⟩
                    case measure => simp [intOf]; omega
                  · 
                    have hmx : max x 0 = x := by omega
                    rw [hmx] at hnx
                    have hf := fill_bd (power := power) (m := x) (left := s) (work := work) hpp.2 (by omega) (by omega) hbd.1 (by omega) hww.1
                    obtain ⟨X, hX⟩ : ∃ X, (power - x) * (work - s) = X := ⟨_, rfl⟩
                    rw [hX] at hnx hf
                    obtain ⟨x0, x1⟩ := hf
                    have rx : IntKind.i64.wrap ((power - x) * (work - s)) = X := by rw [hX]; exact IntWalk.i64_in _ (by omega)
                    obtain ⟨e0, e1⟩ := ediv_bd x0 hww.1
                    obtain ⟨D, hD⟩ : ∃ D, X / work = D := ⟨_, rfl⟩
                    have hDt : X.tdiv work = D := by rw [Int.tdiv_eq_ediv_of_nonneg x0]; exact hD
                    have HD := Lib.hid hD
                    rw [hD] at hnx e0 e1
                    have x2 : X ≤ 200000000000000 := by omega
                    have ne0 : ¬ work = 0 := by omega
                    have ne1 : (work == 0) = false := by rw [beq_eq_false_iff_ne]; omega
                    have HM1 : min (s + D) work = s' := by omega
                    have HM2 : min work (s + D) = s' := by omega
                    clear hX x1 hnx
                    go_wp2_with (first | (go_at_call 100; refine (rfloor_is X work ⟨by omega, by omega⟩ ⟨by omega, by omega⟩ _ HD).mono ?_; rintro e w7 ⟨rfl, rfl⟩) | (at_builtin; refine wpList_append_own _ rfl _ _ 28 rfl w.heap.size 3 i0 (.int .i64 0) 1 8 Try.underlying28 hi hz0 hz1 hz2 rfl (by decide) _ _ _ rfl (hown.out.alloc _) ⟨wr.heap.size, 0, none⟩ 1 1 [.int .i64 s'] rfl rfl (HCN.out) (by intro u hu; simp at hu; subst hu; rfl) (by unfold maxLen; omega) (by omega) (by simp; omega) ?_; intro v' w2 hown' hgrow' _))
                    have hlt2 := hown.out.lt
                    have GN : Hid (w.grownBy w2 none) := fgrown_own hg.out hgrow' (fun g e => (hlt2 g e).1)
                    have HO2 : Hid (w2.ownsRow w.heap.size 3 1 v' (k + 1) R1) := by
                      show World.ownsRow _ _ _ _ _ _ _; rw [HRV.out]; exact hown'
                    clear hown' hgrow' hlt2 SZ
                    go_wp2_with fail
                    go_roundw
                    case rel => exact ⟨k + 1, _, by omega, by rw [HS'.out], rfl, by go_num, GN.out, (by show World.ownsRow _ _ _ _ _ _ _; rw [HR1.out]; exact HO2.out)⟩
                    case measure => simp [intOf]; omega

              · obtain rfl : k = l.length := by omega
                obtain ⟨ao', cap', rfl, hfi⟩ := own_fints hown.out
                have HFI := Lib.hid hfi
                clear hfi hown
                go_wp2
                go_ret2
                exact ⟨⟨_, _, rfl, HFI.out⟩, hg.out⟩
          · rw [if_neg (fun h => h3 h.2)] at hww
            subst hww
            obtain rfl : n = 0 := by rw [← hn.out]; exact balN_not hE.out (by decide)
            have H2 := Lib.hid h2; have H3 := Lib.hid h3
            clear h2 h3 hE hn HE1
            go_wp2_with (first
              | (go_at_call_of 79 (Value.int IntKind.i64 10000); refine (routside_no _ _ _ (by have := H2.out; omega) _).mono ?_; rintro e w1 ⟨rfl, rfl⟩)
              | (go_at_call_of 79 (Value.int IntKind.i64 1000000); refine (routside_yes _ _ _ (by have := H3.out; omega) _).mono ?_; rintro e w1 ⟨rfl, rfl⟩))
            go_ret2
            exact ⟨⟨_, _, rfl, FInts.none _ _ _⟩, grown_refl _ _⟩
        · rw [if_neg (fun h => h2 h.1)] at hww
          subst hww
          obtain rfl : n = 0 := by rw [← hn.out]; exact balN_not hE.out (by decide)
          have H2 := Lib.hid h2
          clear h2 hE hn HE1
          go_wp2_with (go_at_call 79; refine (routside_yes _ _ _ (by have := H2.out; omega) _).mono ?_; rintro e w1 ⟨rfl, rfl⟩)
          go_ret2
          exact ⟨⟨_, _, rfl, FInts.none _ _ _⟩, grown_refl _ _⟩
  · have hv := hE.out
    unfold balE at hv
    rw [hse, if_neg h0] at hv
    subst hv
    obtain rfl : n = 0 := by rw [← hn.out]; exact balN_not hE.out h0
    have hne : (se != 0) = true := by simpa using h0
    clear hse hE hn h0
    go_enter Try.func40, Try.ntmps40
    go_wp2_with (go_at_call 75; refine (rcheckStream_any _ _ _ hl _ HS.out HSE).mono ?_; rintro e w1 ⟨rfl, rfl⟩)
    go_ret2
    exact ⟨⟨_, _, rfl, FInts.none _ _ _⟩, grown_refl _ _⟩

end Go.Proofs.Ytdihmcbjoociiaa
