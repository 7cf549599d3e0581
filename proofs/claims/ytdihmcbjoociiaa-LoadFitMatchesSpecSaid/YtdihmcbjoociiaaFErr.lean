/- The contracts of Errors, of both sides. -/
import Derived.Test.YtdihmcbjoociiaaFFit
import Derived.Test.YtdihmcbjoociiaaFChkT
namespace Go.Proofs.Ytdihmcbjoociiaa
open Go.RowKit

set_option maxRecDepth 100000 in
set_option maxHeartbeats 1600000 in
theorem errors_any (ao : Option Addr) (cap : Nat) (l : List RaceV) (hl : (l.length : Int) ≤ 9223372036854775807) (power work : Int) (w : World) (hs : PairsAt w ao l) {n : Nat} {E : Int} (hE : Hid (errE l power work = E)) (hn : Hid (errL l power work = n)) :
    Calls Try.prog 17 #[.slice ao l.length cap, .int .i64 power, .int .i64 work] w fun e w' => (∃ ao' cap', e = .returned (.tuple #[.slice ao' n cap', .int .i64 E]) ∧ FInts w' ao' n (errN l power work)) ∧ w.grownBy w' none := by
  obtain ⟨i0, hi, hz0, hz1, hz2⟩ := info_parts einfo_int
  have HS := Lib.hid hs
  obtain ⟨te, hte⟩ : ∃ e, testsE l = e := ⟨_, rfl⟩
  have HTE := Lib.hid hte
  have hv := hE.out
  unfold errE at hv
  rw [hte] at hv
  clear hs
  by_cases h0 : te = 0
  · subst h0
    rw [if_pos rfl] at hv
    by_cases h1 : 0 ≤ power ∧ power ≤ 1000000
    · by_cases h2 : 0 ≤ work ∧ work ≤ 1000000000
      · rw [if_pos ⟨h1, h2⟩] at hv
        subst hv
        obtain rfl : n = l.length := by rw [← hn.out]; exact errL_ok hE.out
        have HOK : Hid (TestsOk l) := (err_ok hE.out).1
        have hl20 := HOK.out.len
        have H1 := Lib.hid h1; have H2 := Lib.hid h2
        clear hte h1 h2 hE hn
        go_enter Try.func17, Try.ntmps17
        go_wp2_with fail
        refine (checkTests_any ao cap l hl w HS.out HTE).mono ?_; rintro e w1 ⟨rfl, hg1⟩
        have HG1 := Lib.hid hg1
        have HS1 : Hid (PairsAt w1 ao l) := HS.out.grown hg1
        clear hg1
        go_wp2_with (first
          | (go_at_call_of 78 (Value.int IntKind.i64 1000000); refine (fwithin_yes _ _ _ (by have := H1.out; omega) _).mono ?_; rintro e w1 ⟨rfl, rfl⟩)
          | (go_at_call_of 78 (Value.int IntKind.i64 1000000000); refine (fwithin_yes _ _ _ (by have := H2.out; omega) _).mono ?_; rintro e w1 ⟨rfl, rfl⟩))
        go_loopw [9, 27] (fun ov iv wr => ∃ (k : Nat) (v : Value), k ≤ l.length ∧ v = ov ∧ iv = .int .i64 k ∧ Hid (w1.grownBy wr none) ∧ Hid (wr.ownsRow w1.heap.size 3 1 v k (rowVs (errN l power work) k)))
          (fun _ iv _ => l.length - (intOf iv).toNat)
        case atStart => exact ⟨0, _, Nat.zero_le _, rfl, rfl, grown_refl _ _, World.ownsRow_nil _ _ _ _⟩
        case round =>
          obtain ⟨k, v, hk, rfl, rfl, hg, hown⟩ := hrel
          by_cases hlt : k < l.length
          · obtain ⟨b, off, rfl, hc⟩ := HS1.out.at (by omega)
            have c0 := grown_cell hg.out (hc k hlt).1
            have c1 := grown_cell hg.out (hc k hlt).2
            have hx := HOK.out.each k hlt
            obtain ⟨⟨x0, x1⟩, x2, x3⟩ := hx
            have HEN : Hid (errN l power work k = (raceD l k).sec - (work + power * (raceD l k).way)) := rfl
            have HRV : Hid (rowVs (errN l power work) (k + 1) = rowVs (errN l power work) k ++ [.int .i64 (errN l power work k)]) := rowVs_succ _ _
            generalize hR1 : rowVs (errN l power work) (k + 1) = R1 at *
            have HR1 := Lib.hid hR1
            clear hR1 hc
            generalize rowVs (errN l power work) k = R0 at *
            generalize errN l power work k = V at *
            generalize raceD l k = x at *
            obtain ⟨xw, xs⟩ := x
            simp only at x0 x1 x2 x3 c0 c1
            have hen := HEN.out
            simp only at hen
            have hpp := H1.out; have hww := H2.out
            obtain ⟨p0, p1⟩ := prod_bd (a := power) (b := xw) (A := 1000000) (B := 10000) hpp.1 hpp.2 (by omega) x1
            obtain ⟨Q, hQ⟩ : ∃ Q, power * xw = Q := ⟨_, rfl⟩
            rw [hQ] at hen p0 p1
            have rq : IntKind.i64.wrap (power * xw) = Q := by rw [hQ]; exact IntWalk.i64_in _ (by omega)
            have v1 : xs - (work + Q) = V := hen.symm
            have v2 : xs - work - Q = V := by omega
            obtain ⟨w2', w3'⟩ := hww
            have q2 : Q ≤ 10000000000 := by omega
            have hk20 : k ≤ 20 := by omega
            have OWN : Hid ((wr.alloc (.cells #[.int .i64 xw, .int .i64 xs] 103)).ownsRow w1.heap.size 3 1 v k R0) := hown.out.alloc _
            have HG2 : Hid (w1.grownBy (wr.alloc (.cells #[.int .i64 xw, .int .i64 xs] 103)) none) := grown_trans hg.out (World.grownBy_alloc _ _ _)
            have HCN : Hid (∀ j u, [Value.int .i64 V][j]? = some u → ((wr.alloc (.cells #[.int .i64 xw, .int .i64 xs] 103)).alloc (.cells #[.int .i64 V] 3)).cell? ((⟨wr.heap.size + 1, 0, none⟩ : Addr).add j) = some u) := by
              have q := cell_one_new (wr.alloc (.cells #[.int .i64 xw, .int .i64 xs] 103)) (.int .i64 V) 3
              rw [World.size_alloc] at q; exact q
            have SZ := hg.out.size
            clear hQ hen HEN p1 hown hg
            go_wp2_with (at_builtin; refine wpList_append_own _ rfl _ _ 28 rfl w1.heap.size 3 i0 (.int .i64 0) 1 8 Try.underlying28 hi hz0 hz1 hz2 rfl (by decide) _ _ _ rfl (OWN.out.alloc _) ⟨wr.heap.size + 1, 0, none⟩ 1 1 [.int .i64 V] rfl rfl (HCN.out) (by intro u hu; simp at hu; subst hu; rfl) (by unfold maxLen; omega) (by omega) (by simp; omega) ?_; intro v' w2 hown' hgrow' _)
            have hlt2 := OWN.out.lt
            have GN : Hid (w1.grownBy w2 none) := fgrown_own HG2.out hgrow' (fun g e => (hlt2 g e).1)
            have HO2 : Hid (w2.ownsRow w1.heap.size 3 1 v' (k + 1) R1) := by
              show World.ownsRow _ _ _ _ _ _ _; rw [HRV.out]; exact hown'
            clear hown' hgrow' hlt2 SZ
            go_wp2_with fail
            go_roundw
            case rel => exact ⟨k + 1, _, by omega, rfl, by go_num, GN.out, (by show World.ownsRow _ _ _ _ _ _ _; rw [HR1.out]; exact HO2.out)⟩
            case measure => simp [intOf]; omega
          · obtain rfl : k = l.length := by omega
            obtain ⟨ao', cap', rfl, hfi⟩ := own_fints hown.out
            have HFI := Lib.hid hfi
            have HGA := Lib.hid (grown_trans HG1.out hg.out)
            clear hfi hown
            go_wp2
            go_ret2
            exact ⟨⟨_, _, rfl, HFI.out⟩, HGA.out⟩
      · rw [if_neg (fun h => h2 h.2)] at hv
        subst hv
        obtain rfl : n = 0 := by rw [← hn.out]; exact errL_not hE.out (by decide)
        have H1 := Lib.hid h1; have H2 := Lib.hid h2
        clear hte h1 h2 hE hn
        go_enter Try.func17, Try.ntmps17
        go_wp2_with fail
        refine (checkTests_any ao cap l hl w HS.out HTE).mono ?_; rintro e w1 ⟨rfl, hg1⟩
        have HG1 := Lib.hid hg1
        clear hg1
        go_wp2_with (first
          | (go_at_call_of 78 (Value.int IntKind.i64 1000000); refine (fwithin_yes _ _ _ (by have := H1.out; omega) _).mono ?_; rintro e w1 ⟨rfl, rfl⟩)
          | (go_at_call_of 78 (Value.int IntKind.i64 1000000000); refine (fwithin_no _ _ _ (by have := H2.out; omega) _).mono ?_; rintro e w1 ⟨rfl, rfl⟩))
        go_ret2
        exact ⟨⟨_, _, rfl, FInts.none _ _ _⟩, HG1.out⟩
    · rw [if_neg (fun h => h1 h.1)] at hv
      subst hv
      obtain rfl : n = 0 := by rw [← hn.out]; exact errL_not hE.out (by decide)
      have H1 := Lib.hid h1
      clear hte h1 hE hn
      go_enter Try.func17, Try.ntmps17
      go_wp2_with fail
      refine (checkTests_any ao cap l hl w HS.out HTE).mono ?_; rintro e w1 ⟨rfl, hg1⟩
      have HG1 := Lib.hid hg1
      clear hg1
      go_wp2_with (first
        | (go_at_call_of 78 (Value.int IntKind.i64 1000000); refine (fwithin_no _ _ _ (by have := H1.out; omega) _).mono ?_; rintro e w1 ⟨rfl, rfl⟩))
      go_ret2
      exact ⟨⟨_, _, rfl, FInts.none _ _ _⟩, HG1.out⟩
  · rw [if_neg h0] at hv
    subst hv
    obtain rfl : n = 0 := by rw [← hn.out]; exact errL_not hE.out h0
    have hne : (te != 0) = true := by simpa using h0
    clear hte hE hn h0
    go_enter Try.func17, Try.ntmps17
    go_wp2_with fail
    refine (checkTests_any ao cap l hl w HS.out HTE).mono ?_; rintro e w1 ⟨rfl, hg1⟩
    have HG1 := Lib.hid hg1
    clear hg1
    go_wp2_with fail
    go_ret2
    exact ⟨⟨_, _, rfl, FInts.none _ _ _⟩, HG1.out⟩

set_option maxRecDepth 100000 in
set_option maxHeartbeats 1600000 in
theorem rerrors_any (ao : Option Addr) (cap : Nat) (l : List RaceV) (hl : (l.length : Int) ≤ 9223372036854775807) (power work : Int) (w : World) (hs : PairsAt w ao l) {n : Nat} {E : Int} (hE : Hid (errE l power work = E)) (hn : Hid (errL l power work = n)) :
    Calls Try.prog 18 #[.slice ao l.length cap, .int .i64 power, .int .i64 work] w fun e w' => (∃ ao' cap', e = .returned (.tuple #[.slice ao' n cap', .int .i64 E]) ∧ FInts w' ao' n (errN l power work)) ∧ w.grownBy w' none := by
  obtain ⟨i0, hi, hz0, hz1, hz2⟩ := info_parts einfo_int
  have HS := Lib.hid hs
  obtain ⟨te, hte⟩ : ∃ e, testsE l = e := ⟨_, rfl⟩
  have HTE := Lib.hid hte
  have hv := hE.out
  unfold errE at hv
  rw [hte] at hv
  clear hs
  by_cases h0 : te = 0
  · subst h0
    rw [if_pos rfl] at hv
    by_cases h1 : 0 ≤ power ∧ power ≤ 1000000
    · by_cases h2 : 0 ≤ work ∧ work ≤ 1000000000
      · rw [if_pos ⟨h1, h2⟩] at hv
        subst hv
        obtain rfl : n = l.length := by rw [← hn.out]; exact errL_ok hE.out
        have HOK : Hid (TestsOk l) := (err_ok hE.out).1
        have hl20 := HOK.out.len
        have H1 := Lib.hid h1; have H2 := Lib.hid h2
        clear hte h1 h2 hE hn
        go_enter Try.func18, Try.ntmps18
        go_wp2_with fail
        refine (rcheckTests_any ao cap l hl w HS.out HTE).mono ?_; rintro e w1 ⟨rfl, hg1⟩
        have HG1 := Lib.hid hg1
        have HS1 : Hid (PairsAt w1 ao l) := HS.out.grown hg1
        clear hg1
        go_wp2_with (first
          | (go_at_call_of 79 (Value.int IntKind.i64 1000000); refine (routside_no _ _ _ (by have := H1.out; omega) _).mono ?_; rintro e w1 ⟨rfl, rfl⟩)
          | (go_at_call_of 79 (Value.int IntKind.i64 1000000000); refine (routside_no _ _ _ (by have := H2.out; omega) _).mono ?_; rintro e w1 ⟨rfl, rfl⟩))
        go_loopw [9, 25] (fun ov iv wr => ∃ (k : Nat) (v : Value), k ≤ l.length ∧ v = ov ∧ iv = .int .i64 k ∧ Hid (w1.grownBy wr none) ∧ Hid (wr.ownsRow w1.heap.size 3 1 v k (rowVs (errN l power work) k)))
          (fun _ iv _ => l.length - (intOf iv).toNat)
        case atStart => exact ⟨0, _, Nat.zero_le _, rfl, rfl, grown_refl _ _, World.ownsRow_nil _ _ _ _⟩
        case round =>
          obtain ⟨k, v, hk, rfl, rfl, hg, hown⟩ := hrel
          by_cases hlt : k < l.length
          · obtain ⟨b, off, rfl, hc⟩ := HS1.out.at (by omega)
            have c0 := grown_cell hg.out (hc k hlt).1
            have c1 := grown_cell hg.out (hc k hlt).2
            have hx := HOK.out.each k hlt
            obtain ⟨⟨x0, x1⟩, x2, x3⟩ := hx
            have HEN : Hid (errN l power work k = (raceD l k).sec - (work + power * (raceD l k).way)) := rfl
            have HRV : Hid (rowVs (errN l power work) (k + 1) = rowVs (errN l power work) k ++ [.int .i64 (errN l power work k)]) := rowVs_succ _ _
            generalize hR1 : rowVs (errN l power work) (k + 1) = R1 at *
            have HR1 := Lib.hid hR1
            clear hR1 hc
            generalize rowVs (errN l power work) k = R0 at *
            generalize errN l power work k = V at *
            generalize raceD l k = x at *
            obtain ⟨xw, xs⟩ := x
            simp only at x0 x1 x2 x3 c0 c1
            have hen := HEN.out
            simp only at hen
            have hpp := H1.out; have hww := H2.out
            obtain ⟨p0, p1⟩ := prod_bd (a := power) (b := xw) (A := 1000000) (B := 10000) hpp.1 hpp.2 (by omega) x1
            obtain ⟨Q, hQ⟩ : ∃ Q, power * xw = Q := ⟨_, rfl⟩
            rw [hQ] at hen p0 p1
            have rq : IntKind.i64.wrap (power * xw) = Q := by rw [hQ]; exact IntWalk.i64_in _ (by omega)
            have v1 : xs - (work + Q) = V := hen.symm
            have v2 : xs - work - Q = V := by omega
            obtain ⟨w2', w3'⟩ := hww
            have q2 : Q ≤ 10000000000 := by omega
            have hk20 : k ≤ 20 := by omega
            have OWN : Hid ((wr.alloc (.cells #[.int .i64 xw, .int .i64 xs] 103)).ownsRow w1.heap.size 3 1 v k R0) := hown.out.alloc _
            have HG2 : Hid (w1.grownBy (wr.alloc (.cells #[.int .i64 xw, .int .i64 xs] 103)) none) := grown_trans hg.out (World.grownBy_alloc _ _ _)
            have HCN : Hid (∀ j u, [Value.int .i64 V][j]? = some u → ((wr.alloc (.cells #[.int .i64 xw, .int .i64 xs] 103)).alloc (.cells #[.int .i64 V] 3)).cell? ((⟨wr.heap.size + 1, 0, none⟩ : Addr).add j) = some u) := by
              have q := cell_one_new (wr.alloc (.cells #[.int .i64 xw, .int .i64 xs] 103)) (.int .i64 V) 3
              rw [World.size_alloc] at q; exact q
            have SZ := hg.out.size
            clear hQ hen HEN p1 hown hg
            go_wp2_with (at_builtin; refine wpList_append_own _ rfl _ _ 28 rfl w1.heap.size 3 i0 (.int .i64 0) 1 8 Try.underlying28 hi hz0 hz1 hz2 rfl (by decide) _ _ _ rfl (OWN.out.alloc _) ⟨wr.heap.size + 1, 0, none⟩ 1 1 [.int .i64 V] rfl rfl (HCN.out) (by intro u hu; simp at hu; subst hu; rfl) (by unfold maxLen; omega) (by omega) (by simp; omega) ?_; intro v' w2 hown' hgrow' _)
            have hlt2 := OWN.out.lt
            have GN : Hid (w1.grownBy w2 none) := fgrown_own HG2.out hgrow' (fun g e => (hlt2 g e).1)
            have HO2 : Hid (w2.ownsRow w1.heap.size 3 1 v' (k + 1) R1) := by
              show World.ownsRow _ _ _ _ _ _ _; rw [HRV.out]; exact hown'
            clear hown' hgrow' hlt2 SZ
            go_wp2_with fail
            go_roundw
            case rel => exact ⟨k + 1, _, by omega, rfl, by go_num, GN.out, (by show World.ownsRow _ _ _ _ _ _ _; rw [HR1.out]; exact HO2.out)⟩
            case measure => simp [intOf]; omega
          · obtain rfl : k = l.length := by omega
            obtain ⟨ao', cap', rfl, hfi⟩ := own_fints hown.out
            have HFI := Lib.hid hfi
            have HGA := Lib.hid (grown_trans HG1.out hg.out)
            clear hfi hown
            go_wp2
            go_ret2
            exact ⟨⟨_, _, rfl, HFI.out⟩, HGA.out⟩
      · rw [if_neg (fun h => h2 h.2)] at hv
        subst hv
        obtain rfl : n = 0 := by rw [← hn.out]; exact errL_not hE.out (by decide)
        have H1 := Lib.hid h1; have H2 := Lib.hid h2
        clear hte h1 h2 hE hn
        go_enter Try.func18, Try.ntmps18
        go_wp2_with fail
        refine (rcheckTests_any ao cap l hl w HS.out HTE).mono ?_; rintro e w1 ⟨rfl, hg1⟩
        have HG1 := Lib.hid hg1
        clear hg1
        go_wp2_with (first
          | (go_at_call_of 79 (Value.int IntKind.i64 1000000); refine (routside_no _ _ _ (by have := H1.out; omega) _).mono ?_; rintro e w1 ⟨rfl, rfl⟩)
          | (go_at_call_of 79 (Value.int IntKind.i64 1000000000); refine (routside_yes _ _ _ (by have := H2.out; omega) _).mono ?_; rintro e w1 ⟨rfl, rfl⟩))
        go_ret2
        exact ⟨⟨_, _, rfl, FInts.none _ _ _⟩, HG1.out⟩
    · rw [if_neg (fun h => h1 h.1)] at hv
      subst hv
      obtain rfl : n = 0 := by rw [← hn.out]; exact errL_not hE.out (by decide)
      have H1 := Lib.hid h1
      clear hte h1 hE hn
      go_enter Try.func18, Try.ntmps18
      go_wp2_with fail
      refine (rcheckTests_any ao cap l hl w HS.out HTE).mono ?_; rintro e w1 ⟨rfl, hg1⟩
      have HG1 := Lib.hid hg1
      clear hg1
      go_wp2_with (first
        | (go_at_call_of 79 (Value.int IntKind.i64 1000000); refine (routside_yes _ _ _ (by have := H1.out; omega) _).mono ?_; rintro e w1 ⟨rfl, rfl⟩))
      go_ret2
      exact ⟨⟨_, _, rfl, FInts.none _ _ _⟩, HG1.out⟩
  · rw [if_neg h0] at hv
    subst hv
    obtain rfl : n = 0 := by rw [← hn.out]; exact errL_not hE.out h0
    have hne : (te != 0) = true := by simpa using h0
    clear hte hE hn h0
    go_enter Try.func18, Try.ntmps18
    go_wp2_with fail
    refine (rcheckTests_any ao cap l hl w HS.out HTE).mono ?_; rintro e w1 ⟨rfl, hg1⟩
    have HG1 := Lib.hid hg1
    clear hg1
    go_wp2_with fail
    go_ret2
    exact ⟨⟨_, _, rfl, FInts.none _ _ _⟩, HG1.out⟩

end Go.Proofs.Ytdihmcbjoociiaa
