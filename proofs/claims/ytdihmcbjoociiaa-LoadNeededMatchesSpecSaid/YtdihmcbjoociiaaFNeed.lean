/- The contract of Needed. -/
import Derived.Test.YtdihmcbjoociiaaFStep
import Derived.Test.YtdihmcbjoociiaaFSearch
import Derived.Test.YtdihmcbjoociiaaEChk
namespace Go.Proofs.Ytdihmcbjoociiaa
open Go.RowKit

set_option maxHeartbeats 800000 in
theorem behind_is (days : Nat) (hd : (days : Int) ≤ 5000) (s x c : Int) (hs : Hid (0 ≤ s ∧ s ≤ 10000000)) (hx : Hid (0 ≤ x ∧ x ≤ 10000)) (hc : Hid (1 ≤ c ∧ c ≤ 1000)) (w : World) {v : Int} (hv : Hid (bhN s x c days = v)) :
    Calls Try.prog 97 #[.int .i64 days, .int .i64 s, .int .i64 x, .int .i64 c] w fun e w' => e = .returned (.int .i64 v) ∧ w = w' := by
  go_enter Try.func97, Try.ntmps97
  go_wp2
  go_loopw [1, 10] (fun sv iv wr => ∃ k : Nat, k ≤ days ∧ sv = .int .i64 (bhN s x c k) ∧ iv = .int .i64 k ∧ w = wr)
    (fun _ iv _ => days - (intOf iv).toNat)
  case atStart => exact ⟨0, Nat.zero_le _, rfl, rfl, by first | rfl | trivial⟩
  case round =>
    obtain ⟨k, hk, rfl, rfl, rfl⟩ := hrel
    by_cases hlt : k < days
    · have HB : Hid (0 ≤ bhN s x c k ∧ bhN s x c k ≤ 10000000) := bhN_bd hs.out hx.out hc.out.1 k
      have HV : Hid (stepF (bhN s x c k) x c = bhN s x c (k + 1)) := rfl
      generalize bhN s x c k = y at *
      generalize hz : bhN s x c (k + 1) = z at *
      have HZ := Lib.hid hz
      clear hz
      go_wp2_with (go_at_call 90; refine (step_is _ _ _ HB.out hx.out hc.out _ HV).mono ?_; rintro e w1 ⟨rfl, rfl⟩)
      go_roundw
      case rel => exact ⟨k + 1, by omega, by rw [HZ.out], by go_num, by first | rfl | trivial⟩
      case measure => simp [intOf]; omega
    · obtain rfl : k = days := by omega
      rw [hv.out]
      go_wp2
      go_ret
      exact ⟨rfl, rfl⟩

set_option maxHeartbeats 800000 in
theorem needed1_is (i : Nat) (hi : (i : Int) ≤ 10000) (bd bf bc ba : Nat) (days : Nat) (hd : (days : Int) ≤ 5000) (s c aim : Int) (hs : Hid (0 ≤ s ∧ s ≤ 10000000)) (hc : Hid (1 ≤ c ∧ c ≤ 1000)) (W : World)
    (cd : W.cell? ⟨bd, 0, none⟩ = some (.int .i64 days)) (cf : W.cell? ⟨bf, 0, none⟩ = some (.int .i64 s)) (cc : W.cell? ⟨bc, 0, none⟩ = some (.int .i64 c)) (ca : W.cell? ⟨ba, 0, none⟩ = some (.int .i64 aim)) :
    Calls Try.prog 96 (#[.int .i64 i] ++ #[.pointer (some ⟨bd, 0, none⟩), .pointer (some ⟨bf, 0, none⟩), .pointer (some ⟨bc, 0, none⟩), .pointer (some ⟨ba, 0, none⟩)]) W fun e w' => e = .returned (.bool (enough s c days aim i)) ∧ W.grownBy w' none := by
  have HX : Hid (0 ≤ (i : Int) ∧ (i : Int) ≤ 10000) := ⟨by omega, hi⟩
  obtain ⟨v, hv⟩ : ∃ v, bhN s i c days = v := ⟨_, rfl⟩
  have HV := Lib.hid hv
  have HR : Hid (enough s c days aim i = decide (aim ≤ v)) := by show _ = _; unfold enough; rw [hv]
  clear hv
  go_enter Try.func96, Try.ntmps96
  go_wp2_with fail
  go_quiet (exact Calls.quiet_of_same ((behind_is days hd s i c hs HX hc _ HV).mono fun _ _ h => ⟨h.1, h.2.symm⟩))
  go_wp2_with fail
  go_ret
  exact ⟨ret_bool (by rw [HR.out]), grown_drewN _ _ _⟩

/-- What Needed returns, the place from which on it is enough being known. -/
def neededV (m : Nat) : Int × Bool := if m = 10001 then (0, false) else (m, true)

set_option maxRecDepth 100000 in
set_option maxHeartbeats 1600000 in
theorem needed_ok (s c days aim : Int) (h : Hid (neededE s c days aim = 0)) {m : Nat} (hm : Hid (TurnsAt (enough s c days.toNat aim) 10001 m)) (w : World) :
    Calls Try.prog 36 #[.int .i64 s, .int .i64 c, .int .i64 days, .int .i64 aim] w fun e w' => e = .returned (.tuple #[.int .i64 (neededV m).1, .bool (neededV m).2, .int .i64 0]) ∧ w.grownBy w' none := by
  have hh : (0 ≤ s ∧ s ≤ 10000000) ∧ (1 ≤ c ∧ c ≤ 1000) ∧ (0 ≤ days ∧ days ≤ 5000) ∧ 0 ≤ aim ∧ aim ≤ 10000000 := by
    have q := h.out
    unfold neededE at q
    split at q
    · assumption
    · omega
  obtain ⟨d, rfl⟩ : ∃ d : Nat, days = d := ⟨days.toNat, by omega⟩
  rw [Int.toNat_natCast] at hm
  have H1 : Hid (0 ≤ s ∧ s ≤ 10000000) := hh.1
  have H2 : Hid (1 ≤ c ∧ c ≤ 1000) := hh.2.1
  have H3 : Hid (0 ≤ (d : Int) ∧ (d : Int) ≤ 5000) := hh.2.2.1
  have H4 : Hid (0 ≤ aim ∧ aim ≤ 10000000) := hh.2.2.2
  have hd : (d : Int) ≤ 5000 := hh.2.2.1.2
  have hml : (m : Int) ≤ 10001 := by have := hm.out.1; omega
  have hmf : ∀ (fn : Fn) (first cap : Array Value) (w : World), (Instr.makeFunc fn first cap).run Try.prog w = .ok (.func fn first cap) w := fun _ _ _ _ => rfl
  have eg : ∀ args w, (callFunc 96 args).run Try.prog w = .ok (.enter 96 args) w := enters_of Try.func96 (by kernel_rfl) rfl
  clear hh h
  go_enter Try.func36, Try.ntmps36
  go_wp2_with (first
    | (go_at_call 87; refine (isState_yes _ (by first | exact H1 | exact H4) _).mono ?_; rintro e w1 ⟨rfl, rfl⟩)
    | (go_at_call 88; refine (isConstant_yes _ H2 _).mono ?_; rintro e w1 ⟨rfl, rfl⟩)
    | (go_at_call 78; refine (fwithin_yes _ _ _ H3.out _).mono ?_; rintro e w1 ⟨rfl, rfl⟩))
  have HM := hm
  have hsr := search_is 96 #[.pointer (some ⟨w.heap.size + 1 + 1, 0, none⟩), .pointer (some ⟨w.heap.size, 0, none⟩), .pointer (some ⟨w.heap.size + 1, 0, none⟩), .pointer (some ⟨w.heap.size + 1 + 1 + 1, 0, none⟩)] 10001 (enough s c d aim) m
    ((((w.alloc (.cells #[.int .i64 s] 3)).alloc (.cells #[.int .i64 c] 3)).alloc (.cells #[.int .i64 d] 3)).alloc (.cells #[.int .i64 aim] 3)) eg (by omega)
    (fun W i hg hi => needed1_is i (by omega) _ _ _ _ d hd s c aim H1 H2 W (grown_cell hg (by go_simp)) (grown_cell hg (by go_simp)) (grown_cell hg (by go_simp)) (grown_cell hg (by go_simp))) HM
  refine hsr.mono ?_; rintro e w1 ⟨rfl, hg1⟩
  have HG : Hid (w.grownBy w1 none) := grown_trans (grown_trans (grown_trans (grown_trans (World.grownBy_alloc _ _ _) (World.grownBy_alloc _ _ _)) (World.grownBy_alloc _ _ _)) (World.grownBy_alloc _ _ _)) hg1
  clear hsr hg1
  by_cases h1 : m = 10001
  · subst h1
    go_wp2_with fail
    go_ret3
    exact ⟨rfl, HG.out⟩
  · have HN : Hid (neededV m = ((m : Int), true)) := by show _ = _; unfold neededV; rw [if_neg h1]
    have h2 : (m : Int) ≤ 10000 := by omega
    clear h1
    go_wp2_with fail
    go_ret3
    exact ⟨by rw [HN.out]; rfl, HG.out⟩

theorem needed_no (s c days aim : Int) (h : Hid (¬ neededE s c days aim = 0)) (w : World) :
    Calls Try.prog 36 #[.int .i64 s, .int .i64 c, .int .i64 days, .int .i64 aim] w fun e w' => e = .returned (.tuple #[.int .i64 0, .bool false, .int .i64 9]) ∧ w.grownBy w' none := by
  have hh : ¬ ((0 ≤ s ∧ s ≤ 10000000) ∧ (1 ≤ c ∧ c ≤ 1000) ∧ (0 ≤ days ∧ days ≤ 5000) ∧ 0 ≤ aim ∧ aim ≤ 10000000) := fun q => h.out (by unfold neededE; rw [if_pos q])
  have hG : Hid (w.grownBy ((((w.alloc (.cells #[.int .i64 s] 3)).alloc (.cells #[.int .i64 c] 3)).alloc (.cells #[.int .i64 days] 3)).alloc (.cells #[.int .i64 aim] 3)) none) := grown_trans (grown_trans (grown_trans (World.grownBy_alloc _ _ _) (World.grownBy_alloc _ _ _)) (World.grownBy_alloc _ _ _)) (World.grownBy_alloc _ _ _)
  clear h
  by_cases h1 : 0 ≤ s ∧ s ≤ 10000000
  · have H1 := Lib.hid h1
    by_cases h2 : 1 ≤ c ∧ c ≤ 1000
    · have H2 := Lib.hid h2
      by_cases h3 : 0 ≤ days ∧ days ≤ 5000
      · have H3 := Lib.hid h3
        have H4 : Hid (¬ (0 ≤ aim ∧ aim ≤ 10000000)) := fun h4 => hh ⟨h1, h2, h3, h4⟩
        clear h1 h2 h3 hh
        go_enter Try.func36, Try.ntmps36
        go_wp2_with (first
          | (go_at_call_of 87 (Value.int IntKind.i64 s); refine (isState_yes s H1 _).mono ?_; rintro e w1 ⟨rfl, rfl⟩)
          | (go_at_call_of 87 (Value.int IntKind.i64 aim); refine (isState_no aim H4 _).mono ?_; rintro e w1 ⟨rfl, rfl⟩)
          | (go_at_call 88; refine (isConstant_yes _ H2 _).mono ?_; rintro e w1 ⟨rfl, rfl⟩)
          | (go_at_call 78; refine (fwithin_yes _ _ _ H3.out _).mono ?_; rintro e w1 ⟨rfl, rfl⟩))
        go_ret3
        exact ⟨rfl, hG.out⟩
      · have H3 := Lib.hid h3
        clear h1 h2 h3 hh
        go_enter Try.func36, Try.ntmps36
        go_wp2_with (first
          | (go_at_call 87; refine (isState_yes _ H1 _).mono ?_; rintro e w1 ⟨rfl, rfl⟩)
          | (go_at_call 88; refine (isConstant_yes _ H2 _).mono ?_; rintro e w1 ⟨rfl, rfl⟩)
          | (go_at_call 78; refine (fwithin_no _ _ _ H3.out _).mono ?_; rintro e w1 ⟨rfl, rfl⟩))
        go_ret3
        exact ⟨rfl, hG.out⟩
    · have H2 := Lib.hid h2
      clear h1 h2 hh
      go_enter Try.func36, Try.ntmps36
      go_wp2_with (first
        | (go_at_call 87; refine (isState_yes _ H1 _).mono ?_; rintro e w1 ⟨rfl, rfl⟩)
        | (go_at_call 88; refine (isConstant_no _ H2 _).mono ?_; rintro e w1 ⟨rfl, rfl⟩))
      go_ret3
      exact ⟨rfl, hG.out⟩
  · have H1 := Lib.hid h1
    clear h1 hh
    go_enter Try.func36, Try.ntmps36
    go_wp2_with (first
      | (go_at_call 87; refine (isState_no _ H1 _).mono ?_; rintro e w1 ⟨rfl, rfl⟩))
    go_ret3
    exact ⟨rfl, hG.out⟩

end Go.Proofs.Ytdihmcbjoociiaa
