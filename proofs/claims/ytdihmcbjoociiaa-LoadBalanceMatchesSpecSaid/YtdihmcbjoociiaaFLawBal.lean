/- For all streams and numbers, Balance and Empty return what the reference returns; no more is left than the store holds: the walk. -/
import Derived.Test.YtdihmcbjoociiaaFBal
import Derived.Test.YtdihmcbjoociiaaFRBal
import Derived.Test.YtdihmcbjoociiaaFTold
namespace Go.Proofs.Ytdihmcbjoociiaa
open Go.RowKit

def rowL (n : Nat) (F : Nat → Int) : List Int := (List.range n).map F
theorem rowL_len (n : Nat) (F : Nat → Int) : (rowL n F).length = n := by simp [rowL]
theorem rowL_nth {n : Nat} {F : Nat → Int} {j : Nat} (h : j < n) : nthI (rowL n F) j = F j := by
  unfold nthI rowL; rw [List.getD_eq_getElem?_getD]; simp [h]

/-- What Empty returns, the first second being known behind which less than nothing is left. -/
def empV (n k : Nat) : Int := if k < n then k else 0
def empB (n k : Nat) : Bool := decide (k < n)

set_option maxRecDepth 100000 in
set_option maxHeartbeats 1600000 in
theorem empty_any (ao : Option Addr) (cap : Nat) (l : List Int) (hl : (l.length : Int) ≤ 9223372036854775807) (power work : Int) (w : World) (hs : IntsAt w ao l) {n k : Nat} {E : Int} (hE : Hid (balE l power work = E)) (hn : Hid (balN l power work = n))
    (hk : Hid (FirstAt (fun x => decide (x < 0)) (rowL n (fun j => blN l power work (j + 1))) k)) :
    Calls Try.prog 41 #[.slice ao l.length cap, .int .i64 power, .int .i64 work] w fun e w' => e = .returned (.tuple #[.int .i64 (empV n k), .bool (empB n k), .int .i64 E]) ∧ w.grownBy w' none := by
  have HS := Lib.hid hs
  have hnl := balN_le l power work
  rw [hn.out] at hnl
  have eg : ∀ args w, (callFunc 102 args).run Try.prog w = .ok (.enter 102 args) w := enters_of Try.func102 (by kernel_rfl) rfl
  have hkl := hk.out.le
  rw [rowL_len] at hkl
  clear hs
  by_cases h0 : E = 0
  · subst h0
    have HIV : Hid (idxV (rowL n (fun j => blN l power work (j + 1))) k = if k < n then (k : Int) else -1) := by show _ = _; unfold idxV; rw [rowL_len]
    by_cases hlt : k < n
    · have HV : Hid (empV n k = (k : Int) ∧ empB n k = true) := by refine ⟨?_, ?_⟩ <;> simp [empV, empB, hlt]
      have hii := HIV.out
      rw [if_pos hlt] at hii
      have HI := Lib.hid hii
      clear hlt hii
      go_enter Try.func41, Try.ntmps41
      go_wp2_with fail
      refine (balance_any ao cap l hl power work w HS.out hE hn).mono ?_; rintro e w1 ⟨⟨a1, c1, rfl, hF1⟩, hg1⟩
      have K := Lib.hid hg1
      have hix := idx_is a1 c1 (rowL n (fun j => blN l power work (j + 1))) (by rw [rowL_len]; omega) 102 #[] _ k w1 hF1.toInts eg (Lib.hid fun x => below_is x _) hk
      rw [rowL_len, HI.out] at hix
      have HX := Lib.hid hix
      clear hg1 hF1 hix
      go_wp2_with fail
      refine HX.out.mono ?_; rintro e w2 ⟨rfl, rfl⟩
      go_wp2_with fail
      go_ret3
      exact ⟨by rw [HV.out.1, HV.out.2]; rfl, K.out⟩
    · have HV : Hid (empV n k = 0 ∧ empB n k = false) := by refine ⟨?_, ?_⟩ <;> simp [empV, empB, hlt]
      have hii := HIV.out
      rw [if_neg hlt] at hii
      have HI := Lib.hid hii
      clear hlt hii
      go_enter Try.func41, Try.ntmps41
      go_wp2_with fail
      refine (balance_any ao cap l hl power work w HS.out hE hn).mono ?_; rintro e w1 ⟨⟨a1, c1, rfl, hF1⟩, hg1⟩
      have K := Lib.hid hg1
      have hix := idx_is a1 c1 (rowL n (fun j => blN l power work (j + 1))) (by rw [rowL_len]; omega) 102 #[] _ k w1 hF1.toInts eg (Lib.hid fun x => below_is x _) hk
      rw [rowL_len, HI.out] at hix
      have HX := Lib.hid hix
      clear hg1 hF1 hix
      go_wp2_with fail
      refine HX.out.mono ?_; rintro e w2 ⟨rfl, rfl⟩
      go_wp2_with fail
      go_ret3
      exact ⟨by rw [HV.out.1, HV.out.2]; rfl, K.out⟩
  · obtain rfl : n = 0 := by rw [← hn.out]; exact balN_not hE.out h0
    have HV : Hid (empV 0 k = 0 ∧ empB 0 k = false) := by refine ⟨?_, ?_⟩ <;> simp [empV, empB]
    have hne : (E != 0) = true := by simpa using h0
    clear h0
    go_enter Try.func41, Try.ntmps41
    go_wp2_with fail
    refine (balance_any ao cap l hl power work w HS.out hE hn).mono ?_; rintro e w1 ⟨⟨a1, c1, rfl, hF1⟩, hg1⟩
    have K := Lib.hid hg1
    clear hg1 hF1
    go_wp2_with fail
    go_ret3
    exact ⟨by rw [HV.out.1, HV.out.2]; rfl, K.out⟩

set_option maxRecDepth 100000 in
set_option maxHeartbeats 1600000 in
theorem rempty_any (ao : Option Addr) (cap : Nat) (l : List Int) (hl : (l.length : Int) ≤ 9223372036854775807) (power work : Int) (w : World) (hs : IntsAt w ao l) {n k : Nat} {E : Int} (hE : Hid (balE l power work = E)) (hn : Hid (balN l power work = n))
    (hk : Hid (FirstAt (fun x => decide (x < 0)) (rowL n (fun j => blN l power work (j + 1))) k)) :
    Calls Try.prog 42 #[.slice ao l.length cap, .int .i64 power, .int .i64 work] w fun e w' => e = .returned (.tuple #[.int .i64 (empV n k), .bool (empB n k), .int .i64 E]) ∧ w.grownBy w' none := by
  have HS := Lib.hid hs
  have hnl := balN_le l power work
  rw [hn.out] at hnl
  have hkl := hk.out.le
  rw [rowL_len] at hkl
  clear hs
  by_cases h0 : E = 0
  · subst h0
    go_enter Try.func42, Try.ntmps42
    go_wp2_with fail
    refine (rbalance_any ao cap l hl power work w HS.out hE hn).mono ?_; rintro e w1 ⟨⟨a1, c1, rfl, hF1⟩, hg1⟩
    have K := Lib.hid hg1; have HF := Lib.hid hF1
    clear hg1 hF1
    go_wp2_with fail
    go_loopw [25] (fun iv wr => ∃ j : Nat, j ≤ k ∧ iv = .int .i64 j ∧ w1 = wr)
      (fun iv _ => n - (intOf iv).toNat)
    case atStart => exact ⟨0, Nat.zero_le _, rfl, by first | rfl | trivial⟩
    case round =>
      obtain ⟨j, hj, rfl, rfl⟩ := hrel
      by_cases hlt : j < n
      · obtain ⟨g, rfl, hc⟩ := HF.out.at (by omega)
        have c0 := hc j hlt
        have hnth := rowL_nth (F := fun j => blN l power work (j + 1)) hlt
        by_cases he : j = k
        · have hneg : blN l power work (j + 1) < 0 := by
            have := hk.out.yes (by rw [rowL_len]; omega)
            rw [← he, hnth] at this
            simpa using this
          have HV : Hid (empV n k = (j : Int) ∧ empB n k = true) := by refine ⟨?_, ?_⟩ <;> simp [empV, empB, ← he, hlt]
          clear hc hnth he
          generalize blN l power work (j + 1) = x at *
          go_wp2_with fail
          go_ret3
          exact ⟨by rw [HV.out.1, HV.out.2]; rfl, K.out⟩
        · have hneg : ¬ blN l power work (j + 1) < 0 := by
            have := hk.out.no j (by omega)
            rw [hnth] at this
            simpa using this
          have hj2 : j + 1 ≤ k := by omega
          clear hc hnth he
          generalize blN l power work (j + 1) = x at *
          go_wp2_with fail
          go_roundw
          case rel => exact ⟨j + 1, hj2, by go_num, by first | rfl | trivial⟩
          case measure => simp [intOf]; omega
      · have HV : Hid (empV n k = 0 ∧ empB n k = false) := by
          have : ¬ k < n := by omega
          refine ⟨?_, ?_⟩ <;> simp [empV, empB, this]
        go_wp2_with fail
        go_ret3
        exact ⟨by rw [HV.out.1, HV.out.2]; rfl, K.out⟩
  · obtain rfl : n = 0 := by rw [← hn.out]; exact balN_not hE.out h0
    have HV : Hid (empV 0 k = 0 ∧ empB 0 k = false) := by refine ⟨?_, ?_⟩ <;> simp [empV, empB]
    have hne : (E != 0) = true := by simpa using h0
    clear h0
    go_enter Try.func42, Try.ntmps42
    go_wp2_with fail
    refine (rbalance_any ao cap l hl power work w HS.out hE hn).mono ?_; rintro e w1 ⟨⟨a1, c1, rfl, hF1⟩, hg1⟩
    have K := Lib.hid hg1
    clear hg1 hF1
    go_wp2_with fail
    go_ret3
    exact ⟨by rw [HV.out.1, HV.out.2]; rfl, K.out⟩

theorem over_is (x work : Int) (b : Nat) (w : World) (cw : w.cell? ⟨b, 0, none⟩ = some (.int .i64 work)) : Calls Try.prog 44 (#[.int .i64 x] ++ #[.pointer (some ⟨b, 0, none⟩)]) w fun e w' => e = .returned (.bool (decide (work < x))) ∧ w = w' := by
  go_enter Try.func44, Try.ntmps44
  go_wp2
  go_ret
  exact ⟨rfl, rfl⟩

set_option maxRecDepth 100000 in
set_option maxHeartbeats 1600000 in
theorem bal_law (ao : Option Addr) (cap : Nat) (l : List Int) (hl : (l.length : Int) ≤ 9223372036854775807) (power work : Int) (w : World) (hs : IntsAt w ao l) (_ : l.length ≤ cap) :
    Calls Try.prog 8 #[.slice ao l.length cap, .int .i64 power, .int .i64 work] w fun e w' => e = .returned (.bool true) ∧ w.grownBy w' none := by
  have hmf : ∀ (fn : Fn) (first cap : Array Value) (w : World), (Instr.makeFunc fn first cap).run Try.prog w = .ok (.func fn first cap) w := fun _ _ _ _ => rfl
  have eg : ∀ args w, (callFunc 44 args).run Try.prog w = .ok (.enter 44 args) w := enters_of Try.func44 (by kernel_rfl) rfl
  obtain ⟨E, hE⟩ : ∃ e, balE l power work = e := ⟨_, rfl⟩
  obtain ⟨n, hn⟩ : ∃ n, balN l power work = n := ⟨_, rfl⟩
  obtain ⟨k, hk⟩ := first_some (fun x => decide (x < 0)) (rowL n (fun j => blN l power work (j + 1)))
  obtain ⟨q, hq⟩ := first_some (fun x => decide (work < x)) (rowL n (fun j => blN l power work (j + 1)))
  have hnl := balN_le l power work
  rw [hn] at hnl
  have hqn : ¬ q < n := fun h => by
    have hE0 : E = 0 := by
      rcases Int.decEq E 0 with h0 | h0
      · rw [balN_not hE h0] at hn; omega
      · exact h0
    subst hE0
    have a := hq.yes (by rw [rowL_len]; exact h)
    rw [rowL_nth h] at a
    simp only [decide_eq_true_eq] at a
    rw [balN_ok hE] at hn
    have b := (blN_bd (bal_ok hE) (q + 1) (by omega)).1
    omega
  have HQ : Hid (decide (q < (rowL n (fun j => blN l power work (j + 1))).length) = false) := by show _ = _; rw [rowL_len]; exact decide_eq_false hqn
  have HE := Lib.hid hE; have HN := Lib.hid hn; have HK := Lib.hid hk; have HQF := Lib.hid hq; have HS := Lib.hid hs
  have HNL : Hid (n ≤ 9223372036854775807) := by show _ ≤ _; omega
  obtain ⟨w0, hw0⟩ : ∃ w0, w0 = w.alloc (.cells #[.int .i64 work] 3) := ⟨_, rfl⟩
  have K0 : Hid (w.grownBy w0 none) := by show World.grownBy _ _ _; rw [hw0]; exact World.grownBy_alloc _ _ _
  have cw : w0.cell? ⟨w.heap.size, 0, none⟩ = some (.int .i64 work) := by rw [hw0]; go_simp
  clear hE hn hk hq hqn hs
  go_enter Try.func8, Try.ntmps8
  go_wp2_with fail
  rw [← hw0]
  clear hw0
  refine (balance_any ao cap l hl power work w0 (HS.out.grown K0.out) HE HN).mono ?_; rintro e w1 ⟨⟨a1, c1, rfl, hF1⟩, hg⟩
  have K := Lib.hid (grown_trans K0.out hg)
  have HF1 := Lib.hid hF1
  replace cw := grown_cell hg cw
  clear hg hF1 K0
  go_wp2_with fail
  refine (rbalance_any ao cap l hl power work w1 (HS.out.grown K.out) HE HN).mono ?_; rintro e w2 ⟨⟨a2, c2, rfl, hF2⟩, hg⟩
  have HF2 := Lib.hid hF2
  replace HF1 := Lib.hid (HF1.out.grown hg)
  replace K := Lib.hid (grown_trans K.out hg)
  replace cw := grown_cell hg cw
  clear hg hF2
  go_wp2_with fail
  refine (empty_any ao cap l hl power work w2 (HS.out.grown K.out) HE HN HK).mono ?_; rintro e w3 ⟨rfl, hg⟩
  replace HF1 := Lib.hid (HF1.out.grown hg)
  replace HF2 := Lib.hid (HF2.out.grown hg)
  replace K := Lib.hid (grown_trans K.out hg)
  replace cw := grown_cell hg cw
  clear hg
  go_wp2_with fail
  refine (rempty_any ao cap l hl power work w3 (HS.out.grown K.out) HE HN HK).mono ?_; rintro e w4 ⟨rfl, hg⟩
  replace HF1 := Lib.hid (HF1.out.grown hg)
  replace HF2 := Lib.hid (HF2.out.grown hg)
  replace K := Lib.hid (grown_trans K.out hg)
  replace cw := grown_cell hg cw
  clear hg
  go_wp2_with fail
  refine (equal_fints HF1.out HF2.out (fun _ _ => rfl) HNL.out).mono ?_; rintro e w5 ⟨rfl, hg⟩
  replace HF1 := Lib.hid (HF1.out.grown hg)
  replace K := Lib.hid (grown_trans K.out hg)
  replace cw := grown_cell hg cw
  clear hg HF2
  have hct := contains_is a1 c1 (rowL n (fun j => blN l power work (j + 1))) (by rw [rowL_len]; omega) 44 #[.pointer (some ⟨w.heap.size, 0, none⟩)] _ q w5 HF1.out.toInts eg (Lib.hid fun x => over_is x work _ _ cw) HQF HQ
  rw [rowL_len] at hct
  have HCT := Lib.hid hct
  clear hct
  go_wp2_with fail
  refine HCT.out.mono ?_; rintro e w6 ⟨rfl, rfl⟩
  go_wp2_with fail
  refine (ftold_any _).mono ?_; rintro e w7 ⟨rfl, hg⟩
  replace K := Lib.hid (grown_trans K.out hg)
  clear hg
  go_wp2_with fail
  go_ret
  exact ⟨by first | rfl | simp, K.out⟩

end Go.Proofs.Ytdihmcbjoociiaa
