/- The contract of first: the first form that a text keeps. -/
import Derived.Test.YtemaclfiajbjdacDoorQRefForm
namespace Go.Proofs.YtemaclfiajbjdacDoor
open Go.RowKit

/-- The first form that is kept: its number, its values, or how far the forms came. -/
def firstV (n : Nat) (R : List Nat) : List (List Tok) → Nat → Nat → Int × List Int × Nat
  | [], _, far => (-1, [], far)
  | f :: fs, i, far => if (seqV f R).ok = true ∧ (seqV f R).used = n then ((i : Int), (seqV f R).vals, 0) else firstV n R fs (i + 1) (max far (seqV f R).used)

/-- Forms that lie in block G. -/
def FormsAt (w : World) (G : Nat) (fs : List (List Tok)) : Prop :=
  ∀ i (h : i < fs.length), ∃ (g C : Nat), w.cell? ⟨G, i, none⟩ = some (.slice (some ⟨g, 0, none⟩) fs[i].length C) ∧ ToksAt w g fs[i] ∧ fs[i].length ≤ 100

theorem ret_ivi {a b c d : Int} {v : Value} (h : a = b) (h2 : c = d) : Ending.returned (.tuple #[.int .i64 a, v, .int .i64 c]) = .returned (.tuple #[.int .i64 b, v, .int .i64 d]) := by rw [h, h2]

set_option maxHeartbeats 1600000 in
theorem first_any (s : ByteArray) (hs : s.size ≤ 1000) (G C : Nat) (fs : List (List Tok)) (hn : fs.length ≤ 100) (w : World) (ht : Hid (FormsAt w G fs)) {A : Int × List Int × Nat} (hA : Hid (firstV s.size (rem s 0) fs 0 0 = A)) :
    Calls Tryd.prog 42 #[.string s, .slice (some ⟨G, 0, none⟩) fs.length C] w fun e w' => ∃ lv, e = .returned (.tuple #[.int .i64 A.1, lv, .int .i64 (A.2.2 : Int)]) ∧ w'.ownsRow w.heap.size 3 1 lv A.2.1.length (A.2.1.map (Value.int .i64)) ∧ w.grownBy w' none := by
  go_enter Tryd.func42, Tryd.ntmps42
  go_wp2_with fail
  go_loopw [7, 15] (fun fv iv wr => ∃ (j far : Nat), j ≤ fs.length ∧ far ≤ s.size ∧ fv = .int .i64 (far : Int) ∧ iv = .int .i64 (j : Int) ∧ w.grownBy wr none ∧ Hid (A = firstV s.size (rem s 0) (fs.drop j) j far)) (fun _ iv _ => fs.length - (intOf iv).toNat)
  case atStart => exact ⟨0, 0, Nat.zero_le _, Nat.zero_le _, rfl, rfl, grown_refl _ _, by show A = _; rw [← hA.out]; simp⟩
  case round =>
    obtain ⟨j, far, hj, hfar, rfl, rfl, hg, hw⟩ := hrel
    by_cases hlt : j < fs.length
    · have hd : fs.drop j = fs[j] :: fs.drop (j + 1) := List.drop_eq_getElem_cons hlt
      obtain ⟨g, C', h0, hT, hl⟩ := ht.out j hlt
      have k0 := hg.cell h0 (by simp)
      have hw' := hw.out
      rw [hd] at hw'
      obtain ⟨f, hf⟩ : ∃ f, fs[j] = f := ⟨_, rfl⟩
      rw [hf] at hw' k0 hT hl
      obtain ⟨S, hS⟩ : ∃ S, seqV f (rem s 0) = S := ⟨_, rfl⟩
      simp only [firstV] at hw'
      rw [hS] at hw'
      have HW := Lib.hid hw'; have HS := Lib.hid hS; have HT := Lib.hid (toks_grown hT hg)
      have jl : (j : Int) < (fs.length : Int) := by omega
      clear hw hw' hS hT hf hd h0
      go_wp2_with fail
      refine (match_any s hs g C' f hl wr HT HS).mono ?_
      rintro e w1 ⟨⟨lv, b, rfl, hcase⟩, hu, hg1⟩
      have hgw := grown_trans hg hg1
      by_cases hk : S.ok = true ∧ S.used = s.size
      · have hw2 := HW.out
        rw [if_pos hk] at hw2
        rcases hcase with ⟨h1, _⟩ | ⟨_, rfl, hown⟩
        · rw [h1] at hk; simp at hk
        have hq : decide (S.used = s.size) = true := by simp [hk.2]
        have hown2 : w1.ownsRow w.heap.size 3 1 lv S.vals.length (S.vals.map (Value.int .i64)) := ⟨hown.1, hown.2.imp id (fun ⟨k, cap, cur, p1, p2, p3⟩ => ⟨k, cap, cur, p1, Nat.le_trans hg.size p2, p3⟩)⟩
        have HW2 := Lib.hid hw2; have HO := Lib.hid hown2; clear hw2 hk hown hown2 hg1 hg
        rw [hq]
        go_wp2_with fail
        go_ret3
        rw [HW2.out]
        exact ⟨_, ret_ivi rfl rfl, HO.out, hgw⟩
      · have hw2 := HW.out
        rw [if_neg hk] at hw2
        have hb : b = false := by
          rcases hcase with ⟨_, h⟩ | ⟨h1, h, _⟩
          · exact h
          · rw [h]; simp; intro h2; exact hk ⟨h1, h2⟩
        subst hb
        have HW2 := Lib.hid hw2; clear hw2 hk hcase hg1 hg
        go_wp2_with fail
        refine ⟨⟨j + 1, max far S.used, by omega, by omega, ?_, by go_num, hgw, HW2⟩, by simp [intOf]; omega⟩
        congr 1
        split <;> omega
    · have hje : j = fs.length := by omega
      have hw' := hw.out
      rw [List.drop_eq_nil_of_le (by omega)] at hw'
      simp only [firstV] at hw'
      have HW := Lib.hid hw'; clear hw hw'
      go_wp2_with fail
      go_ret3
      rw [HW.out]
      exact ⟨_, ret_ivi rfl rfl, World.ownsRow_nil _ _ _ _, hg⟩
end Go.Proofs.YtemaclfiajbjdacDoor
