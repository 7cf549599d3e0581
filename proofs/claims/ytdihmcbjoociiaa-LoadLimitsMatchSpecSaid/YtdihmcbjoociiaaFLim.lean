/- Limits that are percents of a threshold: purely, and their contracts. -/
import Derived.Test.YtdihmcbjoociiaaFIdx
import Derived.Test.YtdihmcbjoociiaaFRStep
import Derived.Test.YtdihmcbjoociiaaFPred
import Derived.Test.YtdihmcbjoociiaaEChecks
import Derived.Test.YtdihmcbjoociiaaERZones
import Derived.BigQuiet
namespace Go.Proofs.Ytdihmcbjoociiaa
open Go.RowKit

def limV (t : Int) (l : List Int) (j : Nat) : Int := (t * nthI l j) / 100
def riseB (v : Nat → Int) : Nat → Bool
  | 0 => true
  | 1 => true
  | k + 2 => riseB v (k + 1) && decide (v k < v (k + 1))
theorem riseB_one (v : Nat → Int) : riseB v 1 = true := rfl
theorem riseB_two (v : Nat → Int) (k : Nat) : riseB v (k + 2) = (riseB v (k + 1) && decide (v k < v (k + 1))) := rfl
theorem riseB_down {v : Nat → Int} {n k : Nat} (h : k ≤ n) (hk : riseB v k = false) : riseB v n = false := by
  induction h with
  | refl => exact hk
  | @step m hm ih =>
    cases m with
    | zero =>
      obtain rfl : k = 0 := by simpa using hm
      cases hk
    | succ m => rw [riseB_two, ih]; rfl
/-- What is wrong with a threshold and percents. -/
def limE (t : Int) (l : List Int) : Int :=
  if 1 ≤ t ∧ t ≤ 10000 then (if zonesE l = 0 then (if eachE 0 1000 l = 0 then (if riseB (limV t l) l.length = true then 0 else 10) else 9) else zonesE l) else 9
def limN (t : Int) (l : List Int) : Nat := if limE t l = 0 then l.length else 0
theorem limN_not {t : Int} {l : List Int} {E : Int} (h : limE t l = E) (hE : E ≠ 0) : limN t l = 0 := by
  unfold limN; rw [if_neg (by rw [h]; exact hE)]
theorem limN_ok {t : Int} {l : List Int} (h : limE t l = 0) : limN t l = l.length := by
  unfold limN; rw [if_pos h]
theorem limE_zones {t : Int} {l : List Int} (h : limE t l = 0) : zonesE l = 0 := by
  unfold limE at h
  split at h
  · split at h
    · assumption
    · rename_i hz; exact absurd h hz
  · omega
theorem limN_le (t : Int) (l : List Int) : limN t l ≤ 20 := by
  unfold limN
  split
  · rename_i h; have := zones_len (limE_zones h); omega
  · omega
theorem rising_each {lo hi : Int} : ∀ {l : List Int} {p : Option Int}, risingE lo hi p l = 0 → ∀ x ∈ l, lo ≤ x ∧ x ≤ hi
  | [], _, _, x, hx => by simp at hx
  | y :: r, p, h, x, hx => by
    unfold risingE at h
    split at h
    · rename_i hy
      split at h
      · omega
      · rcases List.mem_cons.1 hx with rfl | hx
        · exact hy
        · exact rising_each h x hx
    · omega
theorem zones_each {l : List Int} (h : zonesE l = 0) {k : Nat} (hk : k < l.length) : 0 ≤ nthI l k ∧ nthI l k ≤ 1000000000 := by
  unfold zonesE at h
  split at h
  · rw [nthI_at hk]; exact rising_each h _ (List.getElem_mem hk)
  · omega

theorem own_grown {w w' : World} {base : Nat} {e : TypeId} {size : Nat} {v : Value} {n : Nat} {xs : List Value} (h : w.ownsRow base e size v n xs) (g : w.grownBy w' none) : w'.ownsRow base e size v n xs := h.kept g (by by_cases h : v.ownBlock = none <;> simp [h])

theorem over1000_is (x : Int) (w : World) : Calls Try.prog 81 (#[.int .i64 x] ++ #[]) w fun e w' => e = .returned (.bool (decide (1000 < x))) ∧ w = w' := by
  go_enter Try.func81, Try.ntmps81
  go_wp2
  go_ret
  exact ⟨rfl, rfl⟩

set_option maxRecDepth 100000 in
set_option maxHeartbeats 3200000 in
theorem limits_any (t : Int) (ao : Option Addr) (cap : Nat) (l : List Int) (hl : (l.length : Int) ≤ 9223372036854775807) (w : World) (hs : IntsAt w ao l) {n : Nat} {E : Int} (hE : Hid (limE t l = E)) (hn : Hid (limN t l = n)) :
    Calls Try.prog 23 #[.int .i64 t, .slice ao l.length cap] w fun e w' => (∃ ao' cap', e = .returned (.tuple #[.slice ao' n cap', .int .i64 E]) ∧ FInts w' ao' n (limV t l)) ∧ w.grownBy w' none := by
  obtain ⟨i0, hi, hz0, hz1, hz2⟩ := info_parts einfo_int
  have HS := Lib.hid hs
  obtain ⟨ze, hze⟩ : ∃ e, zonesE l = e := ⟨_, rfl⟩
  have HZE := Lib.hid hze
  have hv := hE.out
  unfold limE at hv
  rw [hze] at hv
  clear hs
  have eg : ∀ args w, (callFunc 81 args).run Try.prog w = .ok (.enter 81 args) w := enters_of Try.func81 (by kernel_rfl) rfl
  obtain ⟨k0, hk0⟩ := first_some (fun x => decide (1000 < x)) l
  have HK0 := Lib.hid hk0
  by_cases ht : 1 ≤ t ∧ t ≤ 10000
  · have HT := Lib.hid ht
    rw [if_pos ht] at hv
    by_cases h0 : ze = 0
    · subst h0
      rw [if_pos rfl] at hv
      have hl20 := zones_len hze
      have hl6 : (l.length : Int) ≤ 1000000 := by omega
      by_cases h1 : eachE 0 1000 l = 0
      · rw [if_pos h1] at hv
        have HEA := Lib.hid h1
        have HER := Lib.hid hv
        have hkn : ¬ k0 < l.length := fun h => by
          have a := hk0.yes h
          have b := each_nth h1 h
          simp only [decide_eq_true_eq] at a; omega
        have HB : Hid (decide (k0 < l.length) = false) := decide_eq_false hkn
        clear hze h1 hv hk0 hkn ht
        go_enter Try.func23, Try.ntmps23
        go_wp2_with (first
          | (go_at_call 78; refine (fwithin_yes _ _ _ HT.out _).mono ?_; rintro e w1 ⟨rfl, rfl⟩)
          | (go_at_call 80; refine (checkZones_any _ _ _ hl _ HS.out HZE).mono ?_; rintro e w1 ⟨rfl, rfl⟩)
          | (go_at_call 43; refine (contains_is _ _ l hl6 81 #[] _ k0 _ HS.out eg (Lib.hid fun x => over1000_is x _) HK0 HB).mono ?_; rintro e w1 ⟨rfl, rfl⟩))
        go_loopw [7, 22] (fun ov iv wr => ∃ (k : Nat) (v : Value), k ≤ l.length ∧ v = ov ∧ iv = .int .i64 k ∧ Hid (w.grownBy wr none) ∧ Hid (wr.ownsRow w.heap.size 3 1 v k (rowVs (limV t l) k)) ∧ Hid (riseB (limV t l) k = true))
          (fun _ iv _ => l.length - (intOf iv).toNat)
        case atStart => exact ⟨0, _, Nat.zero_le _, rfl, rfl, grown_refl _ _, World.ownsRow_nil _ _ _ _, rfl⟩
        case round =>
          obtain ⟨k, v, hk, rfl, rfl, hg, hown, hrise⟩ := hrel
          by_cases hlt : k < l.length
          · skip
            obtain ⟨b, off, rfl, hc⟩ := HS.out.at (by omega)
            have c0 := grown_cell hg.out (hc k hlt)
            have hx := each_nth HEA.out hlt
            have HLV : Hid (limV t l k = (t * nthI l k) / 100) := rfl
            have HRV : Hid (rowVs (limV t l) (k + 1) = rowVs (limV t l) k ++ [.int .i64 (limV t l k)]) := rowVs_succ _ _
            obtain ⟨V, hV⟩ : ∃ V, limV t l k = V := ⟨_, rfl⟩
            obtain ⟨R1, hR1⟩ : ∃ R, rowVs (limV t l) (k + 1) = R := ⟨_, rfl⟩
            have HR1 := Lib.hid hR1
            have HVV := Lib.hid hV
            rw [hR1, hV] at HRV
            rw [hV] at HLV
            clear hc hR1 hV
            generalize hR0 : rowVs (limV t l) k = R0 at *
            clear hR0
            generalize nthI l k = x at *
            have hlv := HLV.out
            have htt := HT.out
            obtain ⟨p0, p1⟩ := prod_bd (a := t) (b := x) (A := 10000) (B := 1000) (by omega) htt.2 hx.1 hx.2
            obtain ⟨Q, hQ⟩ : ∃ Q, t * x = Q := ⟨_, rfl⟩
            rw [hQ] at hlv p0 p1
            have rq : IntKind.i64.wrap (t * x) = Q := by rw [hQ]; exact IntWalk.i64_in _ (by omega)
            have hDt : Q.tdiv 100 = Q / 100 := Int.tdiv_eq_ediv_of_nonneg p0
            have hv1 : Q / 100 = V := hlv.symm
            have q2 : Q ≤ 10000000 := by omega
            have hVb : 0 ≤ V ∧ V ≤ 10000000 := by omega
            have hk20 : k ≤ 20 := by omega
            have HCN : Hid (∀ j u, [Value.int .i64 V][j]? = some u → (wr.alloc (.cells #[.int .i64 V] 3)).cell? ((⟨wr.heap.size, 0, none⟩ : Addr).add j) = some u) := cell_one_new wr (.int .i64 V) 3
            have SZ := hg.out.size
            clear hQ p1 HLV hlv
            go_wp2_with (at_builtin; refine wpList_append_own _ rfl _ _ 28 rfl w.heap.size 3 i0 (.int .i64 0) 1 8 Try.underlying28 hi hz0 hz1 hz2 rfl (by decide) _ _ _ rfl (hown.out.alloc _) ⟨wr.heap.size, 0, none⟩ 1 1 [.int .i64 V] rfl rfl (HCN.out) (by intro u hu; simp at hu; subst hu; rfl) (by unfold maxLen; omega) (by omega) (by simp; omega) ?_; intro v' w2 hown' hgrow' _)
            have hlt2 := hown.out.lt
            have GN : Hid (w.grownBy w2 none) := fgrown_own hg.out hgrow' (fun g e => (hlt2 g e).1)
            have HO2 : Hid (w2.ownsRow w.heap.size 3 1 v' (k + 1) (rowVs (limV t l) (k + 1))) := by
              show World.ownsRow _ _ _ _ _ _ _; rw [HR1.out, HRV.out]; exact hown'
            clear hown' hgrow' hlt2 SZ hown hg
            obtain ⟨ao', cap', rfl, hfi⟩ := own_fints HO2.out
            obtain ⟨g, rfl, hcl⟩ := hfi.at (Nat.succ_pos k)
            have d1 := hcl k (by omega)
            rw [HVV.out] at d1
            have HCL := Lib.hid hcl
            clear hfi hcl
            by_cases hk0 : k = 0
            · have e0n : decide (0 < k) = false := decide_eq_false (by omega)
              have e0 : decide ((0 : Int) < (k : Int)) = false := by simp; omega
              have HRB2 : Hid (riseB (limV t l) (k + 1) = true) := by show _ = _; rw [hk0]; rfl
              go_wp2_with fail
              go_quiet (fail)
              go_wp2_with fail
              go_roundw
              case rel => exact ⟨k + 1, _, by omega, rfl, by go_num, grown_trans GN.out (grown_drewN _ _ _), own_grown HO2.out (grown_drewN _ _ _), HRB2.out⟩
              case measure => simp [intOf]; omega
            · obtain ⟨m, hkm⟩ : ∃ m, k = m + 1 := ⟨k - 1, by omega⟩
              have d0 := HCL.out m (by omega)
              obtain ⟨U, hU⟩ : ∃ U, limV t l m = U := ⟨_, rfl⟩
              rw [hU] at d0
              have hrb : riseB (limV t l) (k + 1) = decide (U < V) := by
                rw [hkm, riseB_two, ← hkm, hU, HVV.out, hrise.out]; rfl
              have e3 : 0 < k := by omega
              have e0n : decide (0 < k) = true := decide_eq_true e3
              have e0 : decide ((0 : Int) < (k : Int)) = true := by simp; omega
              have ea : ((k : Int) - 1).toNat = m := by omega
              have pa : (0 : Int) ≤ (k : Int) - 1 := by omega
              have pb : (1 : Int) ≤ (k : Int) := by omega
              have ba : (k : Int) - 1 < ((k : Int) + 1) := by omega
              have ba2 : (k : Int) - 1 < ((k + 1 : Nat) : Int) := by omega
              have ba3 : (k : Int) < ((k : Int) + 1) := by omega
              have ra : IntKind.i64.wrap ((k : Int) - 1) = (k : Int) - 1 := by rw [IntKind.wrap_i64]; omega
              by_cases hUV : U < V
              · have HRB2 : Hid (riseB (limV t l) (k + 1) = true) := by show _ = _; rw [hrb]; exact decide_eq_true hUV
                have e1 : decide (V ≤ U) = false := decide_eq_false (by omega)
                clear hrb hU hkm hk0
                go_wp2_with fail
                go_quiet (fail)
                go_wp2_with fail
                go_roundw
                case rel => exact ⟨k + 1, _, by omega, rfl, by go_num, grown_trans GN.out (grown_drewN _ _ _), own_grown HO2.out (grown_drewN _ _ _), HRB2.out⟩
                case measure => simp [intOf]; omega
              · have e1 : decide (V ≤ U) = true := decide_eq_true (by omega)
                have hfalse : riseB (limV t l) l.length = false := riseB_down (by omega : k + 1 ≤ l.length) (by rw [hrb]; exact decide_eq_false hUV)
                have hE10 : E = 10 := by rw [← HER.out, hfalse]; rfl
                subst hE10
                obtain rfl : n = 0 := by rw [← hn.out]; exact limN_not hE.out (by decide)
                clear hrb hU hkm hk0
                go_wp2_with fail
                go_quiet (fail)
                go_wp2_with fail
                go_ret2
                exact ⟨⟨_, _, rfl, FInts.none _ _ _⟩, grown_trans GN.out (grown_drewN _ _ _)⟩
          · skip
            obtain rfl : k = l.length := by omega
            have hE0 : E = 0 := by rw [← HER.out, hrise.out]; rfl
            subst hE0
            obtain rfl : n = l.length := by rw [← hn.out]; exact limN_ok hE.out
            obtain ⟨ao', cap', rfl, hfi⟩ := own_fints hown.out
            have HFI := Lib.hid hfi
            clear hfi hown
            go_wp2
            go_ret2
            exact ⟨⟨_, _, rfl, HFI.out⟩, hg.out⟩
      · rw [if_neg h1] at hv
        subst hv
        obtain rfl : n = 0 := by rw [← hn.out]; exact limN_not hE.out (by decide)
        have hkn : k0 < l.length := by
          rcases Nat.lt_or_ge k0 l.length with q | q
          · exact q
          · refine absurd (eachE_all fun j hj => ?_) h1
            have a := hk0.no j (by omega)
            have b := zones_each hze hj
            simp only [decide_eq_false_iff_not] at a
            omega
        have HB : Hid (decide (k0 < l.length) = true) := decide_eq_true hkn
        clear hze h1 hk0 hkn ht hE hn
        go_enter Try.func23, Try.ntmps23
        go_wp2_with (first
          | (go_at_call 78; refine (fwithin_yes _ _ _ HT.out _).mono ?_; rintro e w1 ⟨rfl, rfl⟩)
          | (go_at_call 80; refine (checkZones_any _ _ _ hl _ HS.out HZE).mono ?_; rintro e w1 ⟨rfl, rfl⟩)
          | (go_at_call 43; refine (contains_is _ _ l hl6 81 #[] _ k0 _ HS.out eg (Lib.hid fun x => over1000_is x _) HK0 HB).mono ?_; rintro e w1 ⟨rfl, rfl⟩))
        go_ret2
        exact ⟨⟨_, _, rfl, FInts.none _ _ _⟩, grown_refl _ _⟩
    · rw [if_neg h0] at hv
      subst hv
      obtain rfl : n = 0 := by rw [← hn.out]; exact limN_not hE.out h0
      have hne : (ze != 0) = true := by simpa using h0
      clear hze hk0 ht hE hn h0
      go_enter Try.func23, Try.ntmps23
      go_wp2_with (first
        | (go_at_call 78; refine (fwithin_yes _ _ _ HT.out _).mono ?_; rintro e w1 ⟨rfl, rfl⟩)
        | (go_at_call 80; refine (checkZones_any _ _ _ hl _ HS.out HZE).mono ?_; rintro e w1 ⟨rfl, rfl⟩))
      go_ret2
      exact ⟨⟨_, _, rfl, FInts.none _ _ _⟩, grown_refl _ _⟩
  · rw [if_neg ht] at hv
    subst hv
    obtain rfl : n = 0 := by rw [← hn.out]; exact limN_not hE.out (by decide)
    have HT := Lib.hid ht
    clear hze hk0 ht hE hn
    go_enter Try.func23, Try.ntmps23
    go_wp2_with (go_at_call 78; refine (fwithin_no _ _ _ HT.out _).mono ?_; rintro e w1 ⟨rfl, rfl⟩)
    go_ret2
    exact ⟨⟨_, _, rfl, FInts.none _ _ _⟩, grown_refl _ _⟩

set_option maxRecDepth 100000 in
set_option maxHeartbeats 3200000 in
theorem rlimits_any (t : Int) (ao : Option Addr) (cap : Nat) (l : List Int) (hl : (l.length : Int) ≤ 9223372036854775807) (w : World) (hs : IntsAt w ao l) {n : Nat} {E : Int} (hE : Hid (limE t l = E)) (hn : Hid (limN t l = n)) :
    Calls Try.prog 24 #[.int .i64 t, .slice ao l.length cap] w fun e w' => (∃ ao' cap', e = .returned (.tuple #[.slice ao' n cap', .int .i64 E]) ∧ FInts w' ao' n (limV t l)) ∧ w.grownBy w' none := by
  obtain ⟨i0, hi, hz0, hz1, hz2⟩ := info_parts einfo_int
  have HS := Lib.hid hs
  obtain ⟨ze, hze⟩ : ∃ e, zonesE l = e := ⟨_, rfl⟩
  have HZE := Lib.hid hze
  clear hs
  by_cases ht : 1 ≤ t ∧ t ≤ 10000
  · have HT := Lib.hid ht
    by_cases h0 : ze = 0
    · subst h0
      have hl20 := zones_len hze
      have HZX : Hid (∀ k, k < l.length → 0 ≤ nthI l k ∧ nthI l k ≤ 1000000000) := fun k hk => zones_each hze hk
      have HEA0 : Hid ((if eachE 0 1000 (l.drop 0) = 0 then (if riseB (limV t l) l.length = true then 0 else 10) else 9) = E) := by
        show _ = _; rw [← hE.out]; unfold limE; rw [if_pos ht, if_pos hze]; rfl
      have HEX : Hid (eachE 0 1000 l = eachE 0 1000 (l.drop 0)) := rfl
      clear hze ht
      go_enter Try.func24, Try.ntmps24
      go_wp2_with (first
        | (go_at_call 79; refine (routside_no _ _ _ HT.out _).mono ?_; rintro e w1 ⟨rfl, rfl⟩)
        | (go_at_call 82; refine (rcheckZones_any _ _ _ hl _ HS.out HZE).mono ?_; rintro e w1 ⟨rfl, rfl⟩))
      go_loopw [21] (fun iv wr => ∃ k : Nat, k ≤ l.length ∧ iv = .int .i64 k ∧ w = wr ∧ Hid (eachE 0 1000 l = eachE 0 1000 (l.drop k)))
        (fun iv _ => l.length - (intOf iv).toNat)
      case atStart => exact ⟨0, Nat.zero_le _, rfl, by first | rfl | trivial, HEX.out⟩
      case round =>
        obtain ⟨k, hk, rfl, rfl, hw⟩ := hrel
        by_cases hlt : k < l.length
        · obtain ⟨b, off, rfl, hc⟩ := HS.out.at (by omega)
          have c0 := hc k hlt
          have hx := HZX.out k hlt
          have he := eachE_at (lo := 0) (hi := 1000) hlt
          clear hc
          by_cases a1 : nthI l k ≤ 1000
          · rw [if_pos ⟨hx.1, a1⟩] at he
            have HW : Hid (eachE 0 1000 l = eachE 0 1000 (l.drop (k + 1))) := hw.out.trans he
            clear he hw
            generalize nthI l k = x at *
            go_wp2_with fail
            go_roundw
            case rel => exact ⟨k + 1, by omega, by go_num, by first | rfl | trivial, HW.out⟩
            case measure => simp [intOf]; omega
          · rw [if_neg (fun h => a1 h.2)] at he
            have hE9 : E = 9 := by
              rw [← HEA0.out, ← HEX.out, hw.out, he]; rfl
            subst hE9
            obtain rfl : n = 0 := by rw [← hn.out]; exact limN_not hE.out (by decide)
            clear he hw hE hn
            generalize nthI l k = x at *
            go_wp2_with fail
            go_ret2
            first | exact ⟨⟨_, _, rfl, FInts.none _ _ _⟩, grown_refl _ _⟩ | exact ⟨⟨_, ⟨_, rfl⟩, FInts.none _ _ _⟩, grown_refl _ _⟩
        · have hea : eachE 0 1000 l = 0 := hw.out.trans (eachE_end (by omega))
          have HEA := Lib.hid hea
          have HER : Hid ((if riseB (limV t l) l.length = true then (0 : Int) else 10) = E) := by
            show _ = _; rw [← HEA0.out, ← HEX.out, if_pos hea]
          clear hw hea HEA0 HEX
          go_wp2_with fail
          go_loopw [7, 30] (fun ov iv wr => ∃ (k : Nat) (v : Value), k ≤ l.length ∧ v = ov ∧ iv = .int .i64 k ∧ Hid (w.grownBy wr none) ∧ Hid (wr.ownsRow w.heap.size 3 1 v k (rowVs (limV t l) k)) ∧ Hid (riseB (limV t l) k = true))
            (fun _ iv _ => l.length - (intOf iv).toNat)
          case atStart => exact ⟨0, _, Nat.zero_le _, rfl, rfl, grown_refl _ _, World.ownsRow_nil _ _ _ _, rfl⟩
          case round =>
            obtain ⟨k, v, hk, rfl, rfl, hg, hown, hrise⟩ := hrel
            by_cases hlt : k < l.length
            · skip
              obtain ⟨b, off, rfl, hc⟩ := HS.out.at (by omega)
              have c0 := grown_cell hg.out (hc k hlt)
              have hx := each_nth HEA.out hlt
              have HLV : Hid (limV t l k = (t * nthI l k) / 100) := rfl
              have HRV : Hid (rowVs (limV t l) (k + 1) = rowVs (limV t l) k ++ [.int .i64 (limV t l k)]) := rowVs_succ _ _
              obtain ⟨V, hV⟩ : ∃ V, limV t l k = V := ⟨_, rfl⟩
              obtain ⟨R1, hR1⟩ : ∃ R, rowVs (limV t l) (k + 1) = R := ⟨_, rfl⟩
              have HR1 := Lib.hid hR1
              have HVV := Lib.hid hV
              rw [hR1, hV] at HRV
              rw [hV] at HLV
              clear hc hR1 hV
              generalize hR0 : rowVs (limV t l) k = R0 at *
              clear hR0
              generalize nthI l k = x at *
              have hlv := HLV.out
              have htt := HT.out
              obtain ⟨p0, p1⟩ := prod_bd (a := t) (b := x) (A := 10000) (B := 1000) (by omega) htt.2 hx.1 hx.2
              obtain ⟨Q, hQ⟩ : ∃ Q, t * x = Q := ⟨_, rfl⟩
              rw [hQ] at hlv p0 p1
              have rq : IntKind.i64.wrap (t * x) = Q := by rw [hQ]; exact IntWalk.i64_in _ (by omega)
              have hDt : Q.tdiv 100 = Q / 100 := Int.tdiv_eq_ediv_of_nonneg p0
              have hv1 : Q / 100 = V := hlv.symm
              have q2 : Q ≤ 10000000 := by omega
              have hVb : 0 ≤ V ∧ V ≤ 10000000 := by omega
              have hk20 : k ≤ 20 := by omega
              have HCN : Hid (∀ j u, [Value.int .i64 V][j]? = some u → (wr.alloc (.cells #[.int .i64 V] 3)).cell? ((⟨wr.heap.size, 0, none⟩ : Addr).add j) = some u) := cell_one_new wr (.int .i64 V) 3
              have SZ := hg.out.size
              clear hQ p1 HLV hlv
              go_wp2_with (at_builtin; refine wpList_append_own _ rfl _ _ 28 rfl w.heap.size 3 i0 (.int .i64 0) 1 8 Try.underlying28 hi hz0 hz1 hz2 rfl (by decide) _ _ _ rfl (hown.out.alloc _) ⟨wr.heap.size, 0, none⟩ 1 1 [.int .i64 V] rfl rfl (HCN.out) (by intro u hu; simp at hu; subst hu; rfl) (by unfold maxLen; omega) (by omega) (by simp; omega) ?_; intro v' w2 hown' hgrow' _)
              have hlt2 := hown.out.lt
              have GN : Hid (w.grownBy w2 none) := fgrown_own hg.out hgrow' (fun g e => (hlt2 g e).1)
              have HO2 : Hid (w2.ownsRow w.heap.size 3 1 v' (k + 1) (rowVs (limV t l) (k + 1))) := by
                show World.ownsRow _ _ _ _ _ _ _; rw [HR1.out, HRV.out]; exact hown'
              clear hown' hgrow' hlt2 SZ hown hg
              obtain ⟨ao', cap', rfl, hfi⟩ := own_fints HO2.out
              obtain ⟨g, rfl, hcl⟩ := hfi.at (Nat.succ_pos k)
              have d1 := hcl k (by omega)
              rw [HVV.out] at d1
              have HCL := Lib.hid hcl
              clear hfi hcl
              by_cases hk0 : k = 0
              · have e0n : decide (0 < k) = false := decide_eq_false (by omega)
                have e0 : decide ((0 : Int) < (k : Int)) = false := by simp; omega
                have HRB2 : Hid (riseB (limV t l) (k + 1) = true) := by show _ = _; rw [hk0]; rfl
                go_wp2_with fail
                go_quiet (fail)
                go_wp2_with fail
                go_roundw
                case rel => exact ⟨k + 1, _, by omega, rfl, by go_num, grown_trans GN.out (grown_drewN _ _ _), own_grown HO2.out (grown_drewN _ _ _), HRB2.out⟩
                case measure => simp [intOf]; omega
              · obtain ⟨m, hkm⟩ : ∃ m, k = m + 1 := ⟨k - 1, by omega⟩
                have d0 := HCL.out m (by omega)
                obtain ⟨U, hU⟩ : ∃ U, limV t l m = U := ⟨_, rfl⟩
                rw [hU] at d0
                have hrb : riseB (limV t l) (k + 1) = decide (U < V) := by
                  rw [hkm, riseB_two, ← hkm, hU, HVV.out, hrise.out]; rfl
                have e3 : 0 < k := by omega
                have e0n : decide (0 < k) = true := decide_eq_true e3
                have e0 : decide ((0 : Int) < (k : Int)) = true := by simp; omega
                have ea : ((k : Int) - 1).toNat = m := by omega
                have pa : (0 : Int) ≤ (k : Int) - 1 := by omega
                have pb : (1 : Int) ≤ (k : Int) := by omega
                have ba : (k : Int) - 1 < ((k : Int) + 1) := by omega
                have ba2 : (k : Int) - 1 < ((k + 1 : Nat) : Int) := by omega
                have ba3 : (k : Int) < ((k : Int) + 1) := by omega
                have ra : IntKind.i64.wrap ((k : Int) - 1) = (k : Int) - 1 := by rw [IntKind.wrap_i64]; omega
                by_cases hUV : U < V
                · have HRB2 : Hid (riseB (limV t l) (k + 1) = true) := by show _ = _; rw [hrb]; exact decide_eq_true hUV
                  have e1 : decide (V ≤ U) = false := decide_eq_false (by omega)
                  clear hrb hU hkm hk0
                  go_wp2_with fail
                  go_quiet (fail)
                  go_wp2_with fail
                  go_roundw
                  case rel => exact ⟨k + 1, _, by omega, rfl, by go_num, grown_trans GN.out (grown_drewN _ _ _), own_grown HO2.out (grown_drewN _ _ _), HRB2.out⟩
                  case measure => simp [intOf]; omega
                · have e1 : decide (V ≤ U) = true := decide_eq_true (by omega)
                  have hfalse : riseB (limV t l) l.length = false := riseB_down (by omega : k + 1 ≤ l.length) (by rw [hrb]; exact decide_eq_false hUV)
                  have hE10 : E = 10 := by rw [← HER.out, hfalse]; rfl
                  subst hE10
                  obtain rfl : n = 0 := by rw [← hn.out]; exact limN_not hE.out (by decide)
                  clear hrb hU hkm hk0
                  go_wp2_with fail
                  go_quiet (fail)
                  go_wp2_with fail
                  go_ret2
                  exact ⟨⟨_, _, rfl, FInts.none _ _ _⟩, grown_trans GN.out (grown_drewN _ _ _)⟩
            · skip
              obtain rfl : k = l.length := by omega
              have hE0 : E = 0 := by rw [← HER.out, hrise.out]; rfl
              subst hE0
              obtain rfl : n = l.length := by rw [← hn.out]; exact limN_ok hE.out
              obtain ⟨ao', cap', rfl, hfi⟩ := own_fints hown.out
              have HFI := Lib.hid hfi
              clear hfi hown
              go_wp2
              go_ret2
              exact ⟨⟨_, _, rfl, HFI.out⟩, hg.out⟩
    · have hv := hE.out
      unfold limE at hv
      rw [hze, if_pos ht, if_neg h0] at hv
      subst hv
      obtain rfl : n = 0 := by rw [← hn.out]; exact limN_not hE.out h0
      have hne : (ze != 0) = true := by simpa using h0
      clear hze ht hE hn h0
      go_enter Try.func24, Try.ntmps24
      go_wp2_with (first
        | (go_at_call 79; refine (routside_no _ _ _ HT.out _).mono ?_; rintro e w1 ⟨rfl, rfl⟩)
        | (go_at_call 82; refine (rcheckZones_any _ _ _ hl _ HS.out HZE).mono ?_; rintro e w1 ⟨rfl, rfl⟩))
      go_ret2
      exact ⟨⟨_, _, rfl, FInts.none _ _ _⟩, grown_refl _ _⟩
  · have hv := hE.out
    unfold limE at hv
    rw [if_neg ht] at hv
    subst hv
    obtain rfl : n = 0 := by rw [← hn.out]; exact limN_not hE.out (by decide)
    have HT := Lib.hid ht
    clear hze ht hE hn
    go_enter Try.func24, Try.ntmps24
    go_wp2_with (go_at_call 79; refine (routside_yes _ _ _ HT.out _).mono ?_; rintro e w1 ⟨rfl, rfl⟩)
    go_ret2
    exact ⟨⟨_, _, rfl, FInts.none _ _ _⟩, grown_refl _ _⟩

end Go.Proofs.Ytdihmcbjoociiaa
