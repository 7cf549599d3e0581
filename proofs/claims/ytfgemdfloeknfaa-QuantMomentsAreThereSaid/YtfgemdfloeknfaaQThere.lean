/- What Moments' list is, and whether it rises. -/
import Derived.Test.YtfgemdfloeknfaaQMoments
namespace Go.Proofs.Ytfgemdfloeknfaa
open Go.RowKit

theorem momP_mem (shown : Int) : ∀ (cs : List (Int × Int)) (frm off bf : Int), chk cs bf = 0 → frm ≤ bf + 1 → frm ≤ 86400000000 → ∀ x : Int,
    x ∈ momP shown frm off cs ↔ frm ≤ x ∧ x < 86400000000 ∧ x = shown - 60 * offP off cs x
  | [], frm, off, bf, _, _, _, x => by
    unfold momP offP
    split
    · rename_i h
      rw [List.mem_singleton]
      omega
    · rename_i h
      simp only [List.not_mem_nil, false_iff]
      omega
  | (f, o) :: r, frm, off, bf, hc, hb, h3, x => by
    unfold chk at hc
    split at hc
    · omega
    · split at hc
      · omega
      · have ih := momP_mem shown r f o f hc (by omega) (by omega) x
        unfold momP offP
        rw [List.mem_append, ih]
        by_cases hx : x < f
        · rw [if_pos hx]
          split
          · rw [List.mem_singleton]; omega
          · simp only [List.not_mem_nil, false_or]; omega
        · rw [if_neg hx]
          split
          · rw [List.mem_singleton]; omega
          · simp only [List.not_mem_nil, false_or]; omega

theorem momP_rises (shown : Int) : ∀ (cs : List (Int × Int)) (frm off bf : Int), chk cs bf = 0 → frm ≤ bf + 1 → frm ≤ 86400000000 → (momP shown frm off cs).Pairwise (· < ·)
  | [], frm, off, bf, _, _, _ => by
    unfold momP
    split <;> simp
  | (f, o) :: r, frm, off, bf, hc, hb, h3 => by
    unfold chk at hc
    split at hc
    · omega
    · split at hc
      · omega
      · have ih := momP_rises shown r f o f hc (by omega) (by omega)
        have hm := momP_mem shown r f o f hc (by omega) (by omega)
        unfold momP
        split
        · rename_i h
          rw [List.singleton_append, List.pairwise_cons]
          exact ⟨fun y hy => by have := (hm y).1 hy; omega, ih⟩
        · simpa using ih

theorem momP_len (shown : Int) : ∀ (cs : List (Int × Int)) (frm off : Int), (momP shown frm off cs).length ≤ cs.length + 1
  | [], frm, off => by unfold momP; split <;> simp
  | (f, o) :: r, frm, off => by
    have := momP_len shown r f o
    unfold momP
    rw [List.length_append]
    split <;> simp <;> omega

/-- What clocks show: Local, said of what Moments' list has. -/
theorem local_iff (first : Int) (cs : List (Int × Int)) (hz : zoneE first cs = 0) (m d s : Int) (hd0 : 0 ≤ d) (hs0 : 0 ≤ s) (hs1 : s ≤ 86399) (hd1 : d ≤ 999999) :
    localE first cs m = (d, s, 0) ↔ m ∈ momP (d * 86400 + s) 0 first cs := by
  obtain ⟨_, _, _, hc⟩ := zone_ok hz
  rw [momP_mem _ cs 0 first (-1) hc (by omega) (by omega)]
  have he : offE first cs m = if m < 0 ∨ 86399999999 < m then (0, 9) else (offP first cs m, 0) := by
    unfold offE; rw [if_neg (by simp [hz])]
  unfold localE
  rw [he]
  by_cases hm : m < 0 ∨ 86399999999 < m
  · rw [if_pos hm]
    simp only [ne_eq]
    constructor
    · intro h; simp at h
    · intro h; omega
  · rw [if_neg hm]
    simp only [ne_eq, not_true_eq_false, if_false]
    generalize offP first cs m = q
    by_cases hq : m + 60 * q < 0 ∨ 86399999999 < m + 60 * q
    · rw [if_pos hq]
      simp only [Prod.mk.injEq]
      constructor
      · intro h; omega
      · intro h; omega
    · rw [if_neg hq]
      simp only [Prod.mk.injEq, and_true]
      constructor
      · rintro ⟨h1, h2⟩
        exact ⟨by omega, by omega, by omega⟩
      · rintro ⟨h1, h2, h3⟩
        exact ⟨by omega, by omega⟩
theorem local_bd {first : Int} {cs : List (Int × Int)} {m d s : Int} (h : localE first cs m = (d, s, 0)) : zoneE first cs = 0 ∧ 0 ≤ d ∧ d ≤ 999999 ∧ 0 ≤ s ∧ s ≤ 86399 := by
  rcases ho : offE first cs m with ⟨o, e⟩
  unfold localE at h
  rw [ho] at h
  simp only at h
  split at h
  · rename_i he; simp at h; exact absurd h.2.2 he
  · rename_i he
    simp only [ne_eq, Decidable.not_not] at he
    subst he
    have hb := offE_bd ho
    split at h
    · simp at h
    · simp only [Prod.mk.injEq] at h
      exact ⟨hb.2.2.2.2, by omega, by omega, by omega, by omega⟩

theorem isNaN_int (x : Int) (w : World) : Calls Try.prog 75 #[.int .i64 x] w fun e w' => e = .returned (.bool false) ∧ w = w' := by
  go_enter Try.func75, Try.ntmps75
  go_wp2_with fail
  go_ret
  exact ⟨by simp, rfl⟩
theorem less_no (y x : Int) (h : ¬ y < x) (w : World) : Calls Try.prog 56 #[.int .i64 y, .int .i64 x] w fun e w' => e = .returned (.bool false) ∧ w = w' := by
  go_enter Try.func56, Try.ntmps56
  go_wp2_with (go_at_call 75; refine (isNaN_int _ _).mono ?_; rintro e w1 ⟨rfl, rfl⟩)
  go_ret
  exact ⟨by simp [h], rfl⟩

theorem less_no' (y x : Int) (h : ¬ y < x) (w : World) : Calls Try.prog 56 #[.int .i64 y, .int .i64 x] w fun e w' => e = .returned (.bool false) ∧ w' = w := (less_no y x h w).mono fun _ _ h => ⟨h.1, h.2.symm⟩

set_option maxHeartbeats 800000 in
theorem isSorted_some (b off cap : Nat) (xs : List Int) (hl : xs.length ≤ 1000) (hs : xs.Pairwise (· < ·)) (w : World) (hc : ∀ j (h : j < xs.length), w.cell? ⟨b, off + j, none⟩ = some (.int .i64 xs[j])) :
    Calls Try.prog 35 #[.slice (some ⟨b, off, none⟩) xs.length cap] w fun e w' => e = .returned (.bool true) ∧ ∃ q, w' = w.drewN q := by
  have hli : (xs.length : Int) ≤ 1000 := by omega
  have HS := Lib.hid hs; have HC := Lib.hid hc; clear hs hc hl
  go_enter Try.func35, Try.ntmps35
  go_wp2_with fail
  go_loopw [3] (fun iv wr => ∃ (j : Int) (q : Nat), -1 ≤ j ∧ j < xs.length ∧ iv = .int .i64 j ∧ wr = w.drewN q) (fun iv _ => (intOf iv + 1).toNat)
  case atStart => exact ⟨_, 0, by omega, by omega, rfl, rfl⟩
  case round =>
    obtain ⟨j, q, j0, j1, rfl, hwr⟩ := hrel
    by_cases hp : 0 < j
    · obtain ⟨i, rfl⟩ : ∃ i : Nat, j = i + 1 := ⟨(j - 1).toNat, by omega⟩
      have hi : i + 1 < xs.length := by omega
      have hi0 : i < xs.length := by omega
      have hlt := (List.pairwise_iff_getElem.1 HS.out) i (i + 1) hi0 hi (by omega)
      have c2 : ∀ n, (wr.drewN n).cell? ⟨b, off + i, none⟩ = some (.int .i64 xs[i]) := fun n => by rw [hwr]; simpa using HC.out i hi0
      have c1 : ∀ n, (wr.drewN n).cell? ⟨b, off + (i + 1), none⟩ = some (.int .i64 xs[i + 1]) := fun n => by rw [hwr]; simpa using HC.out (i + 1) hi
      obtain ⟨x, hx⟩ : ∃ x, xs[i] = x := ⟨_, rfl⟩
      obtain ⟨y, hy⟩ : ∃ y, xs[i + 1] = y := ⟨_, rfl⟩
      rw [hx] at c2 hlt
      rw [hy] at c1 hlt
      have hnn : ¬ y < x := by omega
      clear hx hy hlt
      obtain ⟨i1, hi1⟩ : ∃ q, q = i + 1 := ⟨_, rfl⟩
      obtain ⟨i2, hi2⟩ : ∃ q, q = i := ⟨_, rfl⟩
      have ea : ((i : Int) + 1).toNat = i1 := by omega
      have pa : (0 : Int) ≤ (i : Int) + 1 := by omega
      have ba : (i : Int) + 1 < (xs.length : Int) := by omega
      have ra : IntKind.i64.wrap ((i : Int) + 1) = (i : Int) + 1 := by rw [IntKind.wrap_i64]; omega
      have ec : ((i : Int)).toNat = i2 := by omega
      have pc : (0 : Int) ≤ (i : Int) := by omega
      have bc : (i : Int) < (xs.length : Int) := by omega
      have rc : IntKind.i64.wrap ((i : Int)) = (i : Int) := by rw [IntKind.wrap_i64]; omega
      have la : ∀ n, (wr.drewN n).cell? ⟨b, off + i1, none⟩ = some (.int .i64 y) := by rw [hi1]; exact c1
      have lb : ∀ n, (wr.drewN n).cell? ⟨b, off + i2, none⟩ = some (.int .i64 x) := by rw [hi2]; exact c2
      have HWR := Lib.hid hwr
      clear hi1 hi2 c1 c2 hwr
      go_wp2_with fail
      go_quiet (exact Calls.quiet_of_same (less_no' _ _ (by omega) _))
      clear la lb ea ec
      go_wp2_with fail
      go_roundw
      case rel => exact ⟨(i : Int), q + nq, by omega, by omega, rfl, by rw [HWR.out, World.drewN_drewN]⟩
      case measure => simp [intOf]; omega
    · go_wp2_with fail
      go_ret
      exact ⟨rfl, q, rfl⟩
theorem list_cells {w : World} {base : Nat} {v : Value} {xs : List Int} (h : w.ownsRow base 3 1 v xs.length (xs.map (Value.int .i64))) (hx : 0 < xs.length) :
    ∃ g cap, v = .slice (some ⟨g, 0, none⟩) xs.length cap ∧ ∀ j (hj : j < xs.length), w.cell? ⟨g, j, none⟩ = some (.int .i64 xs[j]) := by
  rcases h.2 with ⟨_, h0⟩ | ⟨g, cap, cur, hv, _, hg, hn, _, hs, ht⟩
  · omega
  · refine ⟨g, cap, hv, fun j hj => ?_⟩
    have hjc : j < cur.size := by omega
    have e : cur[j]? = some (.int .i64 xs[j]) := by
      have h1 : (cur.toList.take (xs.length * 1))[j]? = (xs.map (Value.int .i64))[j]? := by rw [ht]
      rw [List.getElem?_take_of_lt (by omega)] at h1
      simpa [List.getElem?_eq_getElem hj] using h1
    exact cell_of_boxed hg e

end Go.Proofs.Ytfgemdfloeknfaa
