/- For all curves, CheckCurve, Merge and Beats return what the reference returns: the walk. -/
import Derived.Test.YtfeefijaahjheaaERMrg
import Derived.Test.YtfeefijaahjheaaERBts
import Derived.Test.YtfeefijaahjheaaETold
import Derived.Test.YtfeefijaahjheaaFRow
namespace Go.Proofs.Ytfeefijaahjheaa
open Go.RowKit
set_option linter.unusedSimpArgs false
set_option linter.unusedVariables false

theorem ints_fints {w : World} {base : Nat} {v : Value} {R : List Int} (h : w.ownsRow base 3 1 v R.length (R.flatMap intCs)) : ∃ ao cap, v = .slice ao R.length cap ∧ FInts w ao R.length (nthI R) := by
  refine own_fints (base := base) ?_
  have e : rowVs (nthI R) R.length = R.flatMap intCs := by
    unfold rowVs intCs
    rw [← List.map_eq_flatMap]
    apply List.ext_getElem (by simp)
    intro i h1 h2
    simp only [List.getElem_map, List.getElem_range]
    rw [nthI_at (by simpa using h1)]
  rw [e]; exact h
theorem mrgOut_len {a b : List BestV} {R : List BestV} {E : Int} (h : mrgOut a b = (R, E)) : R.length ≤ 100 := by
  unfold mrgOut at h
  split at h
  · split at h
    · rename_i q; cases h; exact q
    · cases h; simp
  · cases h; simp
theorem btsOut_len {a b : List BestV} {R : List Int} {E : Int} (h : btsOut a b = (R, E)) : R.length ≤ 100 := by
  unfold btsOut at h
  split at h
  · rename_i h0
    have q := (two_in h0).1.len
    cases h
    have := bts_len a b a.length
    rw [List.take_length] at this
    omega
  · cases h; simp

set_option maxRecDepth 100000 in
set_option maxHeartbeats 3200000 in
theorem merges_law (ao : Option Addr) (ca : Nat) (a : List BestV) (ha : (a.length : Int) ≤ 4398046511104) (bo : Option Addr) (cb : Nat) (b : List BestV) (hb : (b.length : Int) ≤ 4398046511104) (w : World) (hs : RowsAt bestCs 4 w ao a) (hca : a.length ≤ ca) (ht : RowsAt bestCs 4 w bo b) (hcb : b.length ≤ cb) :
    Calls Try.prog 6 #[.slice ao a.length ca, .slice bo b.length cb] w fun e w' => e = .returned (.bool true) ∧ w.grownBy w' none := by
  obtain ⟨⟨R, E⟩, hE⟩ : ∃ q, mrgOut a b = q := ⟨_, rfl⟩
  obtain ⟨⟨S, D⟩, hD⟩ : ∃ q, btsOut a b = q := ⟨_, rfl⟩
  obtain ⟨C, hC⟩ : ∃ q, crvE a = q := ⟨_, rfl⟩
  have HRL : Hid (R.length ≤ 20000) := by show _ ≤ _; have := mrgOut_len hE; omega
  have HSL : Hid (S.length ≤ 9223372036854775807) := by show _ ≤ _; have := btsOut_len hD; omega
  have KE := Lib.hid hE; have KD := Lib.hid hD; have KC := Lib.hid hC
  have HS := Lib.hid hs; have HT := Lib.hid ht
  clear hE hD hC hs ht
  go_enter Try.func6, Try.ntmps6
  go_wp2_with fail
  refine (merge_is ao bo ca cb a b ha hb w HS.out HT.out KE).mono ?_; rintro e w1 ⟨⟨v1, rfl, ho1⟩, hg1⟩
  have HO1 := Lib.hid ho1; have K := Lib.hid hg1
  clear ho1 hg1
  go_wp2_with fail
  refine (rmerge_is ao bo ca cb a b ha hb hca hcb w1 (HS.out.grown K.out) (HT.out.grown K.out) KE).mono ?_; rintro e w2 ⟨⟨v2, rfl, ho2⟩, hg2⟩
  have HO2 := Lib.hid ho2
  replace HO1 := Lib.hid (kept_own HO1.out hg2)
  replace K := Lib.hid (grown_trans K.out hg2)
  clear ho2 hg2
  go_wp2_with fail
  refine (beats_is ao bo ca cb a b ha hb w2 (HS.out.grown K.out) (HT.out.grown K.out) KD).mono ?_; rintro e w3 ⟨⟨v3, rfl, ho3⟩, hg3⟩
  obtain ⟨a3, c3, rfl, hf3⟩ := ints_fints ho3
  have HF3 := Lib.hid hf3
  replace HO1 := Lib.hid (kept_own HO1.out hg3); replace HO2 := Lib.hid (kept_own HO2.out hg3)
  replace K := Lib.hid (grown_trans K.out hg3)
  clear ho3 hg3 hf3
  go_wp2_with fail
  refine (rbeats_is ao bo ca cb a b ha hb w3 (HS.out.grown K.out) (HT.out.grown K.out) KD).mono ?_; rintro e w4 ⟨⟨v4, rfl, ho4⟩, hg4⟩
  obtain ⟨a4, c4, rfl, hf4⟩ := ints_fints ho4
  have HF4 := Lib.hid hf4
  replace HF3 := Lib.hid (HF3.out.grown hg4)
  replace HO1 := Lib.hid (kept_own HO1.out hg4); replace HO2 := Lib.hid (kept_own HO2.out hg4)
  replace K := Lib.hid (grown_trans K.out hg4)
  clear ho4 hg4 hf4
  go_wp2_with fail
  refine (checkCurve_is ao ca a ha w4 (HS.out.grown K.out) KC).mono ?_; rintro e w5 ⟨rfl, hg5⟩
  replace HF3 := Lib.hid (HF3.out.grown hg5); replace HF4 := Lib.hid (HF4.out.grown hg5)
  replace HO1 := Lib.hid (kept_own HO1.out hg5); replace HO2 := Lib.hid (kept_own HO2.out hg5)
  replace K := Lib.hid (grown_trans K.out hg5)
  clear hg5
  go_wp2_with fail
  refine (rcheckCurve_is ao ca a ha w5 (HS.out.grown K.out) KC).mono ?_; rintro e w6 ⟨rfl, hg6⟩
  replace HF3 := Lib.hid (HF3.out.grown hg6); replace HF4 := Lib.hid (HF4.out.grown hg6)
  replace HO1 := Lib.hid (kept_own HO1.out hg6); replace HO2 := Lib.hid (kept_own HO2.out hg6)
  replace K := Lib.hid (grown_trans K.out hg6)
  clear hg6
  go_wp2_with fail
  refine (equal_bests HO1.out HO2.out HRL.out).mono ?_; rintro e w7 ⟨rfl, hg7⟩
  replace HF3 := Lib.hid (HF3.out.grown hg7); replace HF4 := Lib.hid (HF4.out.grown hg7)
  replace K := Lib.hid (grown_trans K.out hg7)
  clear hg7 HO1 HO2
  go_wp2_with fail
  refine (equal_fints HF3.out HF4.out (fun _ _ => rfl) HSL.out).mono ?_; rintro e w8 ⟨rfl, hg8⟩
  replace K := Lib.hid (grown_trans K.out hg8)
  clear hg8 HF3 HF4
  go_wp2_with fail
  refine (etold_any _).mono ?_; rintro e w9 ⟨rfl, hg9⟩
  replace K := Lib.hid (grown_trans K.out hg9)
  clear hg9
  go_wp2_with fail
  go_ret
  exact ⟨by first | rfl | simp, K.out⟩
end Go.Proofs.Ytfeefijaahjheaa
