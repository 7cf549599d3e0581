/- The stable sort over rows of structs. -/
import Derived.Test.YtfeefijaahjheaaBstSym
import Derived.Test.YtfeefijaahjheaaOPure
namespace Go.Proofs.Ytfeefijaahjheaa
open Go.RowKit
set_option linter.unusedSimpArgs false
set_option linter.unusedVariables false

set_option maxRecDepth 100000 in
set_option maxHeartbeats 3200000 in
theorem bst_stable {w0 : World} {g off n G : Nat} {CB : Array Value} {cf : Nat → Nat → Int} {key : Nat → Int} {e0 : Nat → Int} {e1 : Nat → Int} {e2 : Nat → Int} {e3 : Nat → Bool} {W : World} (B : Hid (SBase Try.prog (bst_E e0 e1 e2 e3) 4 n g off w0 G CB cf key)) (h : Hid (SorK (bst_E e0 e1 e2 e3) 4 n g off w0 (fun k => k) W)) (h0 : 0 < n) (cap : Nat) :
    Calls Try.prog 96 #[.slice (some ⟨g, off, none⟩) n cap, .int .i64 (n : Int), .func (.func G) #[] CB] W fun e w' => e = .returned (.tuple #[]) ∧ ∃ f', Hid (SorK (bst_E e0 e1 e2 e3) 4 n g off w0 f' w') ∧ Ord key n f' := by
  have hn := B.out.hn
  go_enter Try.func96, Try.ntmps96
  go_wp2
  go_loopw [7, 8] (fun av bv wr => ∃ (x : Nat) (f : Nat → Nat), x ≤ n ∧ av = .int .i64 x ∧ bv = .int .i64 ((x : Int) + 20) ∧ Hid (SorK (bst_E e0 e1 e2 e3) 4 n g off w0 f wr) ∧ Hid (Mv 0 x (fun k => k) f ∧ Blks key f n 20 0 x ∧ 20 ∣ x)) (fun av _ _ => n - (intOf av).toNat)
  case atStart => exact ⟨0, fun k => k, by omega, rfl, rfl, h, ⟨Mv.refl _ _ _, fun x _ hx => by omega, Nat.dvd_zero _⟩⟩
  case round =>
    obtain ⟨x, f, hx, rfl, rfl, hs, hh⟩ := hrel
    have hown : ∀ k, x ≤ k → f k = k := fun k hk => hh.out.1.out k (.inr hk)
    have HO := Lib.hid hown; clear hown
    by_cases hlt : x + 20 ≤ n
    · have hlti : (x : Int) + 20 ≤ (n : Int) := by omega
      have hx20 : ((x + 20 : Nat) : Int) = (x : Int) + 20 := by omega
      go_wp2_with fail
      rw [← hx20]
      refine (bst_insert B hs (a := x) (b := x + 20) HO.out (by omega) hlt cap).mono ?_
      rintro e w1 ⟨rfl, f1, hs1, hmb⟩
      obtain ⟨hm1, hb1⟩ := hmb.out
      have HM1 := Lib.hid hm1; have HB1 := Lib.hid hb1
      go_wp2_with fail
      refine ⟨⟨x + 20, f1, by omega, by first | rfl | go_num, by first | rfl | go_num, hs1, ⟨?_, ?_, Nat.dvd_add hh.out.2.2 (Nat.dvd_refl _)⟩⟩, by simp [intOf]; omega⟩
      · exact (hh.out.1.mono (Nat.le_refl _) (by omega)).trans (hm1.mono (by omega) (Nat.le_refl _))
      · exact hh.out.2.1.more hh.out.2.2 hm1 (by rw [show min (x + 20) n = x + 20 by omega]; exact hb1)
    · have hlti : ¬ (x : Int) + 20 ≤ (n : Int) := by omega
      go_wp2_with fail
      refine (bst_insert B hs (a := x) (b := n) HO.out hx (Nat.le_refl _) cap).mono ?_
      rintro e w1 ⟨rfl, f1, hs1, hmb⟩
      obtain ⟨hm1, hb1⟩ := hmb.out
      have HM1 := Lib.hid hm1; have HB1 := Lib.hid hb1
      have hmv : Mv 0 n (fun k => k) f1 := (hh.out.1.mono (Nat.le_refl _) hx).trans (hm1.mono (by omega) (Nat.le_refl _))
      have hbl : Blks key f1 n 20 0 n := by
        have q := hh.out.2.1.more hh.out.2.2 hm1 (by rw [show min (x + 20) n = n by omega]; exact hb1)
        intro y q1 q2 q3
        exact q y q1 (by omega) q3
      have HM := Lib.hid (And.intro hmv hbl)
      clear hmv hbl hs hh hm1 hb1 HO HM1 HB1 hmb
      go_wp2_with fail
      go_loopw [6] (fun sv wr2 => ∃ (size : Nat) (f : Nat → Nat), 20 ≤ size ∧ size ≤ 40000 ∧ sv = .int .i64 size ∧ Hid (SorK (bst_E e0 e1 e2 e3) 4 n g off w0 f wr2) ∧ Hid (Mv 0 n (fun k => k) f ∧ Blks key f n size 0 n)) (fun sv _ => n - (intOf sv).toNat)
      case atStart => exact ⟨20, f1, Nat.le_refl _, by omega, rfl, hs1, HM.out⟩
      case round =>
        obtain ⟨size, f2, hz0, hz1, rfl, hs2, hh2⟩ := hrel
        clear hs1 HM hlti
        by_cases hsn : size < n
        · go_wp2_with fail
          go_loopw [7, 8] (fun av bv wt => ∃ (y : Nat) (f : Nat → Nat), y ≤ n ∧ av = .int .i64 y ∧ bv = .int .i64 ((y : Int) + 2 * (size : Int)) ∧ Hid (SorK (bst_E e0 e1 e2 e3) 4 n g off w0 f wt) ∧ Hid (Mv 0 n (fun k => k) f ∧ Pass key f n size y)) (fun av _ _ => n - (intOf av).toNat)
          case atStart => exact ⟨0, f2, by omega, rfl, by first | rfl | go_num, hs2, ⟨hh2.out.1, Pass.start hh2.out.2 (by omega)⟩⟩
          case round =>
            obtain ⟨y, f3, hy, rfl, rfl, hs3, hh3⟩ := hrel
            by_cases hyl : y + 2 * size ≤ n
            · have hyi : (y : Int) + 2 * (size : Int) ≤ (n : Int) := by omega
              have hym : ((y + size : Nat) : Int) = (y : Int) + (size : Int) := by omega
              have hyb : ((y + 2 * size : Nat) : Int) = (y : Int) + 2 * (size : Int) := by omega
              have hruns := hh3.out.2.runs (b := y + 2 * size) (by omega) (by omega)
              have HR := Lib.hid hruns; clear hruns
              go_wp2_with fail
              rw [← hym, ← hyb]
              refine (bst_merge B cap n y (y + size) (y + 2 * size) (by omega) (by omega) (by omega) hyl _ _ hs3 HR).mono ?_
              rintro e w2 ⟨rfl, f4, hs4, hmo⟩
              go_wp2_with fail
              refine ⟨⟨y + 2 * size, f4, hyl, by first | rfl | go_num, by first | rfl | go_num, hs4, ⟨?_, ?_⟩⟩, by simp [intOf]; omega⟩
              · exact hh3.out.1.trans (hmo.out.1.mono (by omega) hyl)
              · exact hh3.out.2.next hyl hmo.out.1 hmo.out.2
            · have hyi : ¬ (y : Int) + 2 * (size : Int) ≤ (n : Int) := by omega
              by_cases hml : y + size < n
              · have hmi : (y : Int) + (size : Int) < (n : Int) := by omega
                have hym : ((y + size : Nat) : Int) = (y : Int) + (size : Int) := by omega
                have hruns := hh3.out.2.runs (b := n) (by omega) hml
                have HR := Lib.hid hruns; clear hruns
                go_wp2_with fail
                rw [← hym]
                refine (bst_merge B cap n y (y + size) n (by omega) (by omega) hml (Nat.le_refl _) _ _ hs3 HR).mono ?_
                rintro e w2 ⟨rfl, f4, hs4, hmo⟩
                go_wp2_with fail
                refine ⟨⟨2 * size, f4, by omega, by omega, by go_num, hs4, ⟨?_, ?_⟩⟩, by simp [intOf]; omega⟩
                · exact hh3.out.1.trans (hmo.out.1.mono (by omega) (Nat.le_refl _))
                · exact hh3.out.2.last (by omega) hml hmo.out.1 hmo.out.2
              · have hmi : ¬ (y : Int) + (size : Int) < (n : Int) := by omega
                go_wp2_with fail
                refine ⟨⟨2 * size, f3, by omega, by omega, by go_num, hs3, ⟨hh3.out.1, hh3.out.2.done (by omega) (by omega)⟩⟩, by simp [intOf]; omega⟩
        · go_wp2_with fail
          refine bodyPost_end (results_none rfl _ _ _) rfl ?_
          exact ⟨rfl, f2, hs2, hh2.out.1, hh2.out.2.all h0 (by omega)⟩
end Go.Proofs.Ytfeefijaahjheaa
