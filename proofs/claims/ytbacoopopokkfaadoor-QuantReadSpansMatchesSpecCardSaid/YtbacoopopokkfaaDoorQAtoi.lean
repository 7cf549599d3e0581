/- Numbers that are read: Atoi at digits, and whether digits begin a number of a token. -/
import Derived.Test.YtbacoopopokkfaaDoorQForms
import Derived.Test.YtbacoopopokkfaaDoorQRun
import Derived.Test.YtbacoopopokkfaaDoorShelf
namespace Go.Proofs.YtbacoopopokkfaaDoor
open Go.RowKit
set_option linter.unusedSimpArgs false
set_option linter.unusedVariables false

theorem grown_below {w w' : World} (g : Below w.heap.size w w') : w.grownBy w' none := ⟨g.os, g.tape, g.output, g.size, fun k hk _ => g.block k hk⟩

/-- Digits, at least one: what Atoi says of them. -/
theorem atoi_dec {b : UInt8} {r : List UInt8} {n : Nat} (hb : 48 ≤ b.toNat) (h : Lib.decNat (b :: r) = some n) : Lib.atoi (b :: r) = some (n : Int) := by
  have e1 : (b == 45) = false := by
    simp only [beq_eq_false_iff_ne, ne_eq]; rintro rfl; exact absurd hb (by decide)
  have e2 : (b == 43) = false := by
    simp only [beq_eq_false_iff_ne, ne_eq]; rintro rfl; exact absurd hb (by decide)
  simp only [Lib.atoi, e1, e2, h, Option.map_some, Bool.false_eq_true, if_false]
theorem dec_head {b : UInt8} {r : List UInt8} {n : Nat} (h : Lib.decNat (b :: r) = some n) : 48 ≤ b.toNat := by
  simp only [Lib.decNat, List.isEmpty_cons, Bool.false_eq_true, if_false, Lib.decFrom, Lib.digitVal] at h
  split at h
  · rename_i d hd
    split at hd
    · omega
    · cases hd
  · cases h

theorem atoi_any (t : ByteArray) (n : Nat) (h18 : t.size ≤ 18) (h : Lib.decNat t.data.toList = some n) (w : World) :
    Calls Tryd.prog 58 #[.string t] w fun e w' => e = .returned (.tuple #[.int .i64 (n : Int), .nilIface]) ∧ w.grownBy w' none := by
  have ha : Lib.atoi t.data.toList = some (n : Int) := by
    rcases hl : t.data.toList with _ | ⟨b, r⟩
    · rw [hl] at h; cases h
    · rw [hl] at h
      exact atoi_dec (dec_head h) h
  refine (Tryd.strconv_Atoi t n h18 ha w).mono ?_
  rintro e w' ⟨rfl, x, rfl⟩
  exact ⟨rfl, grown_below (Lib.bytesWorld_below _ _ _)⟩

/-- Nothing is no number: Atoi says 0, and an error. -/
theorem atoi_none (ev : Value) (w : World) (hv : w.cell? ⟨4, 0, none⟩ = some ev) (hev : ev = .nilIface ∨ ∃ te pe, ev = .iface te pe) :
    Calls Tryd.prog 58 #[.string ⟨#[]⟩] w fun e w' => (∃ x, e = .returned (.tuple #[.int .i64 0, x])) ∧ w.grownBy w' none := by
  refine (Tryd.strconv_Atoi_syntax ⟨#[]⟩ (by decide) rfl ev w hv hev).mono ?_
  rintro e w' ⟨N, rfl, _, _, g⟩
  exact ⟨⟨_, rfl⟩, grown_below g⟩

set_option maxHeartbeats 1600000 in
theorem begins_any (lo hi dg : Int) (t : ByteArray) (c : Nat) (h1 : 1 ≤ t.size) (h2 : t.size ≤ 100000) (hlo : 0 ≤ lo) (hlo1 : lo ≤ 1) (_ : 0 ≤ hi) (_ : hi ≤ 100000000000000) (hdg : dg ≤ 18) (n : Nat) (hd : Hid (Lib.decNat t.data.toList = some n))
    (hc : Hid (t[0].toNat = c)) (w : World) {B : Bool} (hB : Hid (decide ((t.size : Int) ≤ dg ∧ ¬ (1 < t.size ∧ c = 48) ∧ lo ≤ (n : Int) ∧ (n : Int) ≤ hi) = B)) :
    Calls Tryd.prog 57 #[.agg #[.int .i64 2, .string ⟨#[]⟩, .int .i64 lo, .int .i64 hi, .int .i64 dg], .string t] w fun e w' => e = .returned (.bool B) ∧ w.grownBy w' none := by
  have hB' := hB.out
  by_cases c1 : dg < (t.size : Int)
  · have hb : B = false := by rw [← hB']; simp; omega
    subst hb
    go_enter Tryd.func57, Tryd.ntmps57
    go_wp2_with fail
    go_ret
    exact ⟨rfl, World.grownBy_alloc _ _ _⟩
  · by_cases c2 : 1 < t.size ∧ c = 48
    · have hb : B = false := by rw [← hB']; simp; omega
      subst hb
      have hs0 : (1 : Int) < (t.size : Int) := by omega
      have hz : ((c : Int) == 48) = true := by simp [c2.2]
      have hi0 : (0 : Nat) < t.size := by omega
      have hc' := hc.out
      clear c2
      go_enter Tryd.func57, Tryd.ntmps57
      go_wp2_with fail
      go_ret
      exact ⟨rfl, World.grownBy_alloc _ _ _⟩
    · have hi0 : (0 : Nat) < t.size := by omega
      have hc' := hc.out
      have hz : (1 < (t.size : Int)) → ((c : Int) == 48) = false := by
        intro h; simp; intro h2; exact c2 ⟨by omega, by omega⟩
      have hat := atoi_any t n (by omega) hd.out
      have hbv : B = decide (lo ≤ (n : Int) ∧ (n : Int) ≤ hi) := by
        rw [← hB']
        refine decide_eq_decide.2 ⟨fun h => ⟨h.2.2.1, h.2.2.2⟩, fun h => ⟨by omega, c2, h.1, h.2⟩⟩
      have HAT := Lib.hid hat; have HBV := Lib.hid hbv
      have n0 : 0 ≤ (n : Int) := by omega
      generalize (n : Int) = x at HAT HBV n0
      clear hat hbv hB' hB hd c2
      go_enter Tryd.func57, Tryd.ntmps57
      by_cases c3 : 1 < (t.size : Int)
      · have hz1 := hz c3
        clear hz
        go_wp2_with fail
        refine (HAT.out _).mono ?_; rintro e w1 ⟨rfl, hg1⟩
        have b2 : w1.cell? ⟨w.heap.size, 2, none⟩ = some (.int .i64 lo) := hg1.cell (by simp) (by simp)
        have b3 : w1.cell? ⟨w.heap.size, 3, none⟩ = some (.int .i64 hi) := hg1.cell (by simp) (by simp)
        have hg := grown_trans (World.grownBy_alloc w (.cells #[.int .i64 2, .string ⟨#[]⟩, .int .i64 lo, .int .i64 hi, .int .i64 dg] 57) none) hg1
        clear hg1
        go_wp2_with fail
        go_loopw [7] (fun mv wr => mv = .int .i64 x ∧ wr = w1) (fun _ _ => 0)
        case atStart => exact ⟨rfl, rfl⟩
        case round =>
          obtain ⟨rfl, rfl⟩ := hrel
          by_cases c4 : x ≤ hi
          · by_cases c5 : lo ≤ x
            · have hb : B = true := by rw [HBV.out]; simp [c4, c5]
              subst hb
              go_wp2_with fail
              go_ret
              exact ⟨rfl, hg⟩
            · have hb : B = false := by rw [HBV.out]; simp [c5]
              have hx : (x == 0) = true := by simp; omega
              subst hb
              go_wp2_with fail
              go_ret
              exact ⟨rfl, hg⟩
          · have hb : B = false := by rw [HBV.out]; simp [c4]
            subst hb
            go_wp2_with fail
            go_ret
            exact ⟨rfl, hg⟩
      · clear hz
        go_wp2_with fail
        refine (HAT.out _).mono ?_; rintro e w1 ⟨rfl, hg1⟩
        have b2 : w1.cell? ⟨w.heap.size, 2, none⟩ = some (.int .i64 lo) := hg1.cell (by simp) (by simp)
        have b3 : w1.cell? ⟨w.heap.size, 3, none⟩ = some (.int .i64 hi) := hg1.cell (by simp) (by simp)
        have hg := grown_trans (World.grownBy_alloc w (.cells #[.int .i64 2, .string ⟨#[]⟩, .int .i64 lo, .int .i64 hi, .int .i64 dg] 57) none) hg1
        clear hg1
        go_wp2_with fail
        go_loopw [7] (fun mv wr => mv = .int .i64 x ∧ wr = w1) (fun _ _ => 0)
        case atStart => exact ⟨rfl, rfl⟩
        case round =>
          obtain ⟨rfl, rfl⟩ := hrel
          by_cases c4 : x ≤ hi
          · by_cases c5 : lo ≤ x
            · have hb : B = true := by rw [HBV.out]; simp [c4, c5]
              subst hb
              go_wp2_with fail
              go_ret
              exact ⟨rfl, hg⟩
            · have hb : B = false := by rw [HBV.out]; simp [c5]
              have hx : (x == 0) = true := by simp; omega
              subst hb
              go_wp2_with fail
              go_ret
              exact ⟨rfl, hg⟩
          · have hb : B = false := by rw [HBV.out]; simp [c4]
            subst hb
            go_wp2_with fail
            go_ret
            exact ⟨rfl, hg⟩
end Go.Proofs.YtbacoopopokkfaaDoor
