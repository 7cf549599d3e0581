/- The contract of the reference's Series. -/
import Derived.Test.YtdihmcbjoociiaaFRStep
import Derived.Test.YtdihmcbjoociiaaFSeries
namespace Go.Proofs.Ytdihmcbjoociiaa
open Go.RowKit

set_option maxRecDepth 100000 in
set_option maxHeartbeats 1600000 in
theorem rseries_any (ao : Option Addr) (cap : Nat) (l : List Int) (hl : (l.length : Int) ≤ 9223372036854775807) (c first : Int) (w : World) (hs : IntsAt w ao l) {n : Nat} {E : Int} (hE : Hid (seriesE l c first = E)) (hn : Hid (seriesN l c first = n)) :
    Calls Try.prog 30 #[.slice ao l.length cap, .int .i64 c, .int .i64 first] w fun e w' => (∃ ao' cap', e = .returned (.tuple #[.slice ao' n cap', .int .i64 E]) ∧ FInts w' ao' n (fun j => stN l c first (j + 1))) ∧ w.grownBy w' none := by
  obtain ⟨i0, hi, hz0, hz1, hz2⟩ := info_parts einfo_int
  have HS := Lib.hid hs
  have hv := hE.out
  unfold seriesE at hv
  clear hs
  by_cases h1 : (l.length : Int) ≤ 5000
  · rw [if_pos h1] at hv
    by_cases h2 : (0 ≤ first ∧ first ≤ 10000000) ∧ 1 ≤ c ∧ c ≤ 1000
    · rw [if_pos h2] at hv
      have H2 := Lib.hid h2
      have HE0 : Hid (eachE 0 10000 (l.drop 0) = E) := hv
      clear h2 hv
      go_enter Try.func30, Try.ntmps30
      go_wp2_with (first
        | (go_at_call 91; refine (rfault_ok _ _ H2 _).mono ?_; rintro e w1 ⟨rfl, rfl⟩))
      go_loopw [2, 9, 23] (fun sv ov iv wr => ∃ (k : Nat) (v : Value), k ≤ l.length ∧ sv = .int .i64 (stN l c first k) ∧ v = ov ∧ iv = .int .i64 k ∧ Hid (w.grownBy wr none) ∧ Hid (wr.ownsRow w.heap.size 3 1 v k (rowVs (fun j => stN l c first (j + 1)) k)) ∧ Hid (∀ j, j < k → 0 ≤ nthI l j ∧ nthI l j ≤ 10000) ∧ Hid (eachE 0 10000 (l.drop k) = E))
        (fun _ _ iv _ => l.length - (intOf iv).toNat)
      case atStart => exact ⟨0, _, Nat.zero_le _, rfl, rfl, rfl, grown_refl _ _, World.ownsRow_nil _ _ _ _, fun j hj => absurd hj (Nat.not_lt_zero _), HE0.out⟩
      case round =>
        obtain ⟨k, v, hk, rfl, rfl, rfl, hg, hown, hok, hw⟩ := hrel
        by_cases hlt : k < l.length
        · obtain ⟨b, off, rfl, hc⟩ := HS.out.at (by omega)
          have c0 := grown_cell hg.out (hc k hlt)
          have HW : Hid (_ = E) := Lib.hid ((eachE_at (lo := 0) (hi := 10000) hlt).symm.trans hw.out)
          have HB : Hid (0 ≤ stN l c first k ∧ stN l c first k ≤ 10000000) := stN_bd H2.out.1 H2.out.2.1 k hok.out
          have HV : Hid (stepF (stN l c first k) (nthI l k) c = stN l c first (k + 1)) := rfl
          clear hw hc
          by_cases a1 : 0 ≤ nthI l k ∧ nthI l k ≤ 10000
          · have HE : Hid (eachE 0 10000 (l.drop (k + 1)) = E) := by show _ = _; rw [← HW.out, if_pos a1]
            have HOK : Hid (∀ j, j < k + 1 → 0 ≤ nthI l j ∧ nthI l j ≤ 10000) := fun j hj => by
              rcases Nat.lt_or_ge j k with q | q
              · exact hok.out j q
              · obtain rfl : j = k := by omega
                exact a1
            have H1 := Lib.hid a1
            have HRV : Hid (rowVs (fun j => stN l c first (j + 1)) (k + 1) = rowVs (fun j => stN l c first (j + 1)) k ++ [.int .i64 (stN l c first (k + 1))]) := rowVs_succ _ _
            have hk5 : k ≤ 5000 := by omega
            clear HW a1 hok
            generalize hR1 : rowVs (fun j => stN l c first (j + 1)) (k + 1) = R1 at *
            have HR1 := Lib.hid hR1
            clear hR1
            generalize rowVs (fun j => stN l c first (j + 1)) k = R0 at *
            generalize nthI l k = x at *
            generalize stN l c first k = s at *
            generalize hs' : stN l c first (k + 1) = s' at *
            have HS' := Lib.hid hs'
            clear hs'
            have HCN : Hid (∀ j u, [Value.int .i64 s'][j]? = some u → (wr.alloc (.cells #[.int .i64 s'] 3)).cell? ((⟨wr.heap.size, 0, none⟩ : Addr).add j) = some u) := cell_one_new wr (.int .i64 s') 3
            have SZ := hg.out.size
            go_wp2_with (first
              | (go_at_call 79; refine (routside_no _ _ _ H1.out _).mono ?_; rintro e w1 ⟨rfl, rfl⟩)
              | (go_at_call 92; refine (rstep_is _ _ _ HB.out H1.out H2.out.2 _ HV).mono ?_; rintro e w1 ⟨rfl, rfl⟩)
              | (at_builtin; refine wpList_append_own _ rfl _ _ 28 rfl w.heap.size 3 i0 (.int .i64 0) 1 8 Try.underlying28 hi hz0 hz1 hz2 rfl (by decide) _ _ _ rfl (hown.out.alloc _) ⟨wr.heap.size, 0, none⟩ 1 1 [.int .i64 s'] rfl rfl (HCN.out) (by intro u hu; simp at hu; subst hu; rfl) (by unfold maxLen; omega) (by omega) (by simp; omega) ?_; intro v' w2 hown' hgrow' _))
            have hlt2 := hown.out.lt
            have GN : Hid (w.grownBy w2 none) := fgrown_own hg.out hgrow' (fun g e => (hlt2 g e).1)
            have HO2 : Hid (w2.ownsRow w.heap.size 3 1 v' (k + 1) R1) := by
              show World.ownsRow _ _ _ _ _ _ _; rw [HRV.out]; exact hown'
            clear hown' hgrow' hlt2 SZ
            go_wp2_with fail
            go_roundw
            case rel => exact ⟨k + 1, _, by omega, by rw [HS'.out], rfl, by go_num, GN.out, (by show World.ownsRow _ _ _ _ _ _ _; rw [HR1.out]; exact HO2.out), HOK.out, HE.out⟩
            case measure => simp [intOf]; omega
          · have HE : Hid (E = 9) := by show _ = _; rw [← HW.out, if_neg a1]
            have H1 := Lib.hid a1
            have hE9 := HE.out
            subst hE9
            have hn0 : n = 0 := by rw [← hn.out]; exact seriesN_not hE.out (by decide)
            subst hn0
            clear HW a1
            generalize nthI l k = x at *
            go_wp2_with (go_at_call 79; refine (routside_yes _ _ _ H1.out _).mono ?_; rintro e w1 ⟨rfl, rfl⟩)
            go_ret2
            exact ⟨⟨_, _, rfl, FInts.none _ _ _⟩, hg.out⟩
        · obtain rfl : k = l.length := by omega
          have hE0 : E = 0 := by rw [← hw.out]; exact eachE_end (Nat.le_refl _)
          subst hE0
          have hn0 : n = l.length := by rw [← hn.out]; exact seriesN_ok hE.out
          subst hn0
          obtain ⟨ao', cap', rfl, hfi⟩ := own_fints hown.out
          have HFI := Lib.hid hfi
          clear hfi hown
          go_wp2
          go_ret2
          exact ⟨⟨_, _, rfl, HFI.out⟩, hg.out⟩
    · rw [if_neg h2] at hv
      subst hv
      have hn0 : n = 0 := by rw [← hn.out]; exact seriesN_not hE.out (by decide)
      subst hn0
      have H2 := Lib.hid h2
      clear h2
      go_enter Try.func30, Try.ntmps30
      go_wp2_with (first
        | (go_at_call 91; refine (rfault_no _ _ H2 _).mono ?_; rintro e w1 ⟨rfl, rfl⟩))
      go_ret2
      exact ⟨⟨_, _, rfl, FInts.none _ _ _⟩, grown_refl _ _⟩
  · rw [if_neg h1] at hv
    subst hv
    have hn0 : n = 0 := by rw [← hn.out]; exact seriesN_not hE.out (by decide)
    subst hn0
    go_enter Try.func30, Try.ntmps30
    go_wp2
    go_ret2
    first | exact ⟨⟨_, _, rfl, FInts.none _ _ _⟩, grown_refl _ _⟩ | exact ⟨⟨_, ⟨_, rfl⟩, FInts.none _ _ _⟩, grown_refl _ _⟩

end Go.Proofs.Ytdihmcbjoociiaa
