/- The contracts of what the reference asks of ends and of spans: in, end, keeps. -/
import Derived.Test.YtbacoopopokkfaaGreatDoorQSetG
namespace Go.Proofs.YtbacoopopokkfaaGreatDoor
open Go.RowKit Go.Shelf
set_option linter.unusedSimpArgs false
set_option linter.unusedVariables false

set_option maxRecDepth 100000 in
set_option maxHeartbeats 1600000 in
theorem in_is (ao : Option Addr) (cap : Nat) (L : List SpV) (hl : (L.length : Int) ≤ 9223372036854775807) (n : Int) (w : World) (hs : RowsAt spCs 2 w ao L) {b : Bool} (hb : covS L n = b) :
    Calls Tryz.prog 32 #[.slice ao L.length cap, .int .i64 n] w fun x w' => x = .returned (.bool b) ∧ w.grownBy w' none := by
  have HS := Lib.hid hs; have HB := Lib.hid hb
  clear hs hb
  go_enter Tryz.func32, Tryz.ntmps32
  go_wp2_with fail
  go_loopw [9] (fun iv wr => (∃ k : Nat, k ≤ L.length ∧ iv = .int .i64 k ∧ Hid (covS (L.drop k) n = b)) ∧ Hid (w.grownBy wr none)) (fun iv _ => L.length - (intOf iv).toNat)
  case atStart => exact ⟨⟨0, Nat.zero_le _, rfl, by rw [List.drop_zero]; exact HB.out⟩, World.grownBy.refl _ _⟩
  case round =>
    obtain ⟨⟨k, hk, rfl, hd⟩, hg⟩ := hrel
    by_cases hlt : k < L.length
    · obtain ⟨b1, o1, rfl, q1⟩ := sp_at (HS.out.grown hg.out) (by omega)
      obtain ⟨x0, x1⟩ := q1 k hlt
      have hdd := hd.out
      rw [List.drop_eq_getElem_cons hlt, cov_cons] at hdd
      generalize L[k] = x at *
      obtain ⟨xf, xt⟩ := x
      simp only at x0 x1
      have HG := Lib.hid (grown_trans hg.out (World.grownBy_alloc wr (.cells #[.int .i64 xf, .int .i64 xt] 35) none))
      clear q1 hd hg
      by_cases c1 : xf ≤ n
      · by_cases c2 : n ≤ xt
        · have HD : Hid (true = b) := by
            show _ = _
            rw [← hdd]; unfold inSp; simp [c1, c2]
          clear hdd
          go_wp2_with fail
          go_ret
          exact ⟨ret_bool HD.out, HG.out⟩
        · have HD : Hid (covS (L.drop (k + 1)) n = b) := by
            show _ = _
            rw [← hdd]; unfold inSp; simp [c2]
          clear hdd
          go_wp2_with fail
          go_roundw
          case rel => exact ⟨⟨k + 1, by omega, by go_num, HD.out⟩, HG.out⟩
          case measure => simp [intOf]; omega
      · have HD : Hid (covS (L.drop (k + 1)) n = b) := by
          show _ = _
          rw [← hdd]; unfold inSp; simp [c1]
        clear hdd
        go_wp2_with fail
        go_roundw
        case rel => exact ⟨⟨k + 1, by omega, by go_num, HD.out⟩, HG.out⟩
        case measure => simp [intOf]; omega
    · have HD : Hid (false = b) := by
        have q := hd.out
        rw [List.drop_eq_nil_of_le (by omega)] at q; exact q
      go_wp2_with fail
      go_ret
      exact ⟨ret_bool HD.out, hg.out⟩

/-- The end with a number. -/
def nthE (L : List SpV) (i : Nat) : Int := if i % 2 = 0 then (L.getD (i / 2) ⟨0, 0⟩).fr else (L.getD (i / 2) ⟨0, 0⟩).to_ + 1
theorem ends_at : ∀ (L : List SpV) (i : Nat), i < 2 * L.length → (endsV L).drop i = nthE L i :: (endsV L).drop (i + 1)
  | [], i, h => absurd h (by simp)
  | x :: r, 0, _ => rfl
  | x :: r, 1, _ => rfl
  | x :: r, i + 2, h => by
    have ih := ends_at r i (by simp only [List.length_cons] at h; omega)
    show (endsV r).drop i = _
    rw [ih]
    have e1 : (i + 2) % 2 = i % 2 := by omega
    have e2 : (i + 2) / 2 = i / 2 + 1 := by omega
    unfold nthE
    rw [e1, e2]
    rfl
theorem endsV_len (L : List SpV) : (endsV L).length = 2 * L.length := by
  induction L with
  | nil => rfl
  | cons x L ih =>
    show (x.fr :: (x.to_ + 1) :: endsV L).length = _
    simp only [List.length_cons, ih]; omega

set_option maxRecDepth 100000 in
theorem end_is (ao : Option Addr) (cap : Nat) (L : List SpV) (hl : L.length ≤ 1000) (hb : InB L) (i : Nat) (hi : i < 2 * L.length) (w : World) (hs : RowsAt spCs 2 w ao L) {e : Int} (he : nthE L i = e) :
    Calls Tryz.prog 90 #[.slice ao L.length cap, .int .i64 (i : Int)] w fun x w' => x = .returned (.int .i64 e) ∧ w = w' := by
  obtain ⟨b1, o1, rfl, q1⟩ := sp_at hs (by omega)
  have hlt : i / 2 < L.length := by omega
  obtain ⟨x0, x1⟩ := q1 (i / 2) hlt
  have hx := hb _ (List.getElem_mem hlt)
  have hg : L.getD (i / 2) ⟨0, 0⟩ = L[i / 2] := by rw [List.getD_eq_getElem?_getD, List.getElem?_eq_getElem hlt]; rfl
  unfold nthE at he
  rw [hg] at he
  generalize L[i / 2] = x at *
  obtain ⟨xf, xt⟩ := x
  simp only at x0 x1 hx he
  have hq : (i : Int) / 2 = ((i / 2 : Nat) : Int) := by omega
  obtain ⟨m, hm⟩ : ∃ m, i / 2 = m := ⟨_, rfl⟩
  rw [hm] at x0 x1 hlt hq
  have hm0 : (0 : Int) ≤ (m : Int) := by omega
  have hm1 : (m : Int) < (L.length : Int) := by omega
  have rw1 : IntKind.i64.wrap (xt + 1) = xt + 1 := IntWalk.i64_in _ (by omega)
  have rw2 : IntKind.i64.wrap (m : Int) = (m : Int) := IntWalk.i64_in _ (by omega)
  have HX := Lib.hid hx
  clear q1 hs hb hg hx
  by_cases hr : i % 2 = 0
  · rw [if_pos hr] at he
    have hri : (i : Int) % 2 = 0 := by omega
    have HE := Lib.hid he
    clear he hr hm hi
    go_enter Tryz.func90, Tryz.ntmps90
    go_wp2_with fail
    go_ret
    exact ⟨ret_int HE.out, rfl⟩
  · rw [if_neg hr] at he
    have hri : (i : Int) % 2 = 1 := by omega
    have HE := Lib.hid he
    clear he hr hm hi
    go_enter Tryz.func90, Tryz.ntmps90
    go_wp2_with fail
    go_ret
    exact ⟨ret_int HE.out, rfl⟩

theorem keeps_is (how : Nat) (hh : how = 1 ∨ how = 2 ∨ how = 3) (p q : Bool) (w : World) : Calls Tryz.prog 65 #[.int .i64 (how : Int), .bool p, .bool q] w fun x w' => x = .returned (.bool (keepH how p q)) ∧ w = w' := by
  rcases hh with rfl | rfl | rfl <;> cases p <;> cases q <;>
  · go_enter Tryz.func65, Tryz.ntmps65
    go_wp2_with fail
    go_ret
    exact ⟨rfl, rfl⟩
end Go.Proofs.YtbacoopopokkfaaGreatDoor
