/- Insertion, purely and in memory; the middle one of numbers, the reference's. -/
import Derived.Test.YtgkhhfojioepgaaTMid
namespace Go.Proofs.Ytgkhhfojioepgaa
open Go.RowKit
set_option linter.unusedSimpArgs false
set_option linter.unusedVariables false

def at0 (ys : List Int) (a : Nat) : Int := ys[a]?.getD 0

structure InsInv (ys : List Int) (i k : Nat) : Prop where
  others : ∀ a b, a < b → b ≤ i → a ≠ k → b ≠ k → at0 ys a ≤ at0 ys b
  this : ∀ b, k < b → b ≤ i → at0 ys k ≤ at0 ys b

def Upto (ys : List Int) (i : Nat) : Prop := ∀ a b, a < b → b < i → at0 ys a ≤ at0 ys b

theorem ins_start {ys : List Int} {i : Nat} (h : Upto ys i) : InsInv ys i i :=
  ⟨fun a b h1 h2 _ h4 => h a b h1 (by omega), fun b h1 h2 => by omega⟩
theorem ins_end {ys : List Int} {i k : Nat} (h : InsInv ys i k) (hk : k ≤ i) (he : k = 0 ∨ ¬ at0 ys k < at0 ys (k - 1)) : Upto ys (i + 1) := by
  intro a b h1 h2
  by_cases ha : a = k
  · subst ha; exact h.this b h1 (by omega)
  · by_cases hb : b = k
    · subst hb
      rcases he with he | he
      · omega
      · by_cases ha2 : a = b - 1
        · subst ha2; omega
        · have := h.others a (b - 1) (by omega) (by omega) ha (by omega)
          omega
    · exact h.others a b h1 (by omega) ha hb

def swap (ys : List Int) (k : Nat) : List Int := (ys.set (k + 1) (at0 ys k)).set k (at0 ys (k + 1))

theorem at0_swap {ys : List Int} {k : Nat} (hk : k + 1 < ys.length) (a : Nat) : at0 (swap ys k) a = if a = k then at0 ys (k + 1) else if a = k + 1 then at0 ys k else at0 ys a := by
  unfold swap
  by_cases h1 : a = k
  · subst h1
    rw [if_pos rfl]
    simp [at0, show a < ys.length by omega]
  · rw [if_neg h1]
    by_cases h2 : a = k + 1
    · subst h2
      rw [if_pos rfl]
      simp [at0, hk]
    · rw [if_neg h2]
      simp [at0, Ne.symm h1, Ne.symm h2]

theorem ins_step {ys : List Int} {i k : Nat} (h : InsInv ys i (k + 1)) (hk : k + 1 ≤ i) (hi : i < ys.length) (hlt : at0 ys (k + 1) < at0 ys k) : InsInv (swap ys k) i k := by
  have e := at0_swap (ys := ys) (k := k) (by omega)
  refine ⟨fun a b h1 h2 h3 h4 => ?_, fun b h1 h2 => ?_⟩
  · rw [e a, e b, if_neg h3, if_neg h4]
    by_cases ha : a = k + 1
    · rw [if_pos ha, if_neg (by omega)]
      exact h.others k b (by omega) h2 (by omega) (by omega)
    · rw [if_neg ha]
      by_cases hb : b = k + 1
      · rw [if_pos hb]
        exact h.others a k (by omega) (by omega) (by omega) (by omega)
      · rw [if_neg hb]
        exact h.others a b h1 h2 ha hb
  · rw [e k, e b, if_pos rfl, if_neg (by omega)]
    by_cases hb : b = k + 1
    · rw [if_pos hb]; omega
    · rw [if_neg hb]
      exact h.this b (by omega) h2

theorem swap_perm (ys : List Int) (k : Nat) (hk : k + 1 < ys.length) : (swap ys k).Perm ys := by
  have h := Array.swap_perm (xs := ys.toArray) (i := k + 1) (j := k) (by simpa using hk) (by simp; omega)
  rw [Array.perm_iff_toList_perm] at h
  simpa [Array.toList_swap, swap, at0, List.getElem?_eq_getElem hk, List.getElem?_eq_getElem (show k < ys.length by omega)] using h

theorem swap_len (ys : List Int) (k : Nat) : (swap ys k).length = ys.length := by simp [swap]

theorem upto_sorted {ys : List Int} (h : Upto ys ys.length) : ys.Pairwise (· ≤ ·) := by
  rw [List.pairwise_iff_getElem]
  intro a b ha hb hab
  have := h a b hab hb
  simpa [at0, List.getElem?_eq_getElem ha, List.getElem?_eq_getElem hb] using this

theorem mid_of {xs ys : List Int} (hp : ys.Perm xs) (hs : ys.Pairwise (· ≤ ·)) : (xs.mergeSort fun x y => decide (x ≤ y)) = ys := by
  have h1 : (xs.mergeSort fun x y => decide (x ≤ y)).Pairwise (· ≤ ·) := by
    have := List.pairwise_mergeSort (le := fun x y : Int => decide (x ≤ y)) (by intro a b c; simp; omega) (by intro a b; simp; omega) xs
    simpa using this
  exact List.Perm.eq_of_pairwise (fun a b _ _ h h' => Int.le_antisymm h h') h1 hs ((List.mergeSort_perm xs _).trans hp.symm)
theorem ins_set {w : World} {base g n cap : Nat} {ys : List Int} (h : w.ownsRow base 3 1 (.slice (some ⟨g, 0, none⟩) n cap) n (ys.map (Value.int .i64))) {k : Nat} (_ : k < n) (x : Int) :
    (w.setCell ⟨g, k, none⟩ (.int .i64 x)).ownsRow base 3 1 (.slice (some ⟨g, 0, none⟩) n cap) n ((ys.set k x).map (Value.int .i64)) := by
  refine ⟨by simpa using h.1, .inr ?_⟩
  rcases h.2 with ⟨h0, _⟩ | ⟨g', cap', cur, hv, hb, hg, hn, hm, hs, ht⟩
  · cases h0
  · cases hv
    refine ⟨g, cap, cur.setIfInBounds k (.int .i64 x), rfl, hb, by simp [World.setCell, Array.getElem?_modify, hg], hn, hm, by simpa using hs, ?_⟩
    rw [Array.toList_setIfInBounds, List.take_set, ht, List.map_set]
theorem ins_free {w : World} {base g n cap : Nat} {xs : List Value} (h : w.ownsRow base 3 1 (.slice (some ⟨g, 0, none⟩) n cap) n xs) (k : Nat) : w.frozen? ⟨g, k, none⟩ = false := by
  rcases h.2 with ⟨h0, _⟩ | ⟨g', cap', cur, hv, hb, hg, _⟩
  · cases h0
  · cases hv
    simp [World.frozen?, hg]
theorem ins_at {w : World} {base g n cap : Nat} {ys : List Int} (h : w.ownsRow base 3 1 (.slice (some ⟨g, 0, none⟩) n cap) n (ys.map (Value.int .i64))) (hl : ys.length = n) {k : Nat} (hk : k < n) : w.cell? ⟨g, k, none⟩ = some (.int .i64 (at0 ys k)) := by
  subst hl
  have q := h.cells (g := g) rfl k (.int .i64 (at0 ys k)) (by simp [at0, hk])
  have e : (⟨g, 0, none⟩ : Addr).add k = ⟨g, k, none⟩ := by unfold Addr.add; split <;> simp_all
  rw [e] at q; exact q
theorem ins_grow {w0 w : World} {g : Nat} (h : w0.grownBy w (some g)) (k : Nat) (v : Value) : w0.grownBy (w.setCell ⟨g, k, none⟩ v) (some g) :=
  ⟨h.os, h.tape, h.output, by have := h.size; simpa [World.setCell] using this, fun i hi hne => (Below.heap_setCell _ _ _ _ (fun e => hne (by rw [e]))).trans (h.block i hi hne)⟩

set_option maxRecDepth 100000 in
set_option maxHeartbeats 1600000 in
theorem rmiddle_is (base g lcap n : Nat) (xs : List Int) (hn : xs.length = n) (h1 : 1 ≤ n) (h2 : n ≤ 200) (w : World) (ho : w.ownsRow base 3 1 (.slice (some ⟨g, 0, none⟩) n lcap) n (xs.map (Value.int .i64))) :
    Calls Try.prog 89 #[.slice (some ⟨g, 0, none⟩) n lcap] w fun e w' => e = .returned (.int .i64 (midV xs)) ∧ w.grownBy w' (some g) := by
  have HO := Lib.hid ho; have HN := Lib.hid hn
  clear ho hn
  go_enter Try.func89, Try.ntmps89
  go_wp2_with fail
  go_loopw [7] (fun iv wt => ∃ (i : Nat) (ys : List Int), i ≤ n ∧ iv = .int .i64 i ∧ Hid (ys.length = n ∧ ys.Perm xs ∧ Upto ys i) ∧ w.grownBy wt (some g) ∧ Hid (wt.ownsRow base 3 1 (.slice (some ⟨g, 0, none⟩) n lcap) n (ys.map (Value.int .i64))))
    (fun iv _ => n - (intOf iv).toNat)
  case atStart => exact ⟨0, xs, Nat.zero_le _, rfl, ⟨HN.out, List.Perm.refl _, fun a b h1 h2 => by omega⟩, World.grownBy.refl _ _, HO.out⟩
  case round =>
    obtain ⟨i, ys, hi, rfl, hys, hgt, howt⟩ := hrel
    by_cases hin : i < n
    · go_wp2_with fail
      go_loopw [4] (fun kv wt2 => ∃ (k : Nat) (zs : List Int), k ≤ i ∧ kv = .int .i64 k ∧ Hid (zs.length = n ∧ zs.Perm xs ∧ InsInv zs i k) ∧ w.grownBy wt2 (some g) ∧ Hid (wt2.ownsRow base 3 1 (.slice (some ⟨g, 0, none⟩) n lcap) n (zs.map (Value.int .i64))))
        (fun kv _ => (intOf kv).toNat)
      case atStart => exact ⟨i, ys, Nat.le_refl _, rfl, ⟨hys.out.1, hys.out.2.1, ins_start hys.out.2.2⟩, hgt, howt.out⟩
      case round =>
        obtain ⟨k, zs, hk, rfl, hzs, hgu, howu⟩ := hrel
        rcases k with _ | k
        · simp only [Int.natCast_zero]
          go_wp2_with fail
          go_region
          all_goals go_wp2_with fail
          all_goals exact ⟨⟨i + 1, zs, by omega, by simp, ⟨hzs.out.1, hzs.out.2.1, ins_end hzs.out.2.2 (by omega) (.inl rfl)⟩, grown_trans hgu (grown_drewN _ _ 1), howu.out.drew⟩, by simp [intOf]; omega⟩
        · have ck := ins_at howu.out hzs.out.1 (k := k) (by omega)
          have ck1 := ins_at howu.out hzs.out.1 (k := k + 1) (by omega)
          obtain ⟨x, hx⟩ : ∃ x, at0 zs k = x := ⟨_, rfl⟩
          obtain ⟨y, hy⟩ : ∃ y, at0 zs (k + 1) = y := ⟨_, rfl⟩
          rw [hx] at ck
          rw [hy] at ck1
          have HXY := Lib.hid (And.intro hx hy); clear hx hy
          have hk1 : (((k + 1 : Nat)) : Int) = (k : Int) + 1 := by omega
          rw [hk1]
          clear hk1
          have fk := ins_free howu.out k
          have fk1 := ins_free howu.out (k + 1)
          have e1 : ∀ v, (wr.setCell ⟨g, k + 1, none⟩ (.int .i64 v)).cell? ⟨g, k, none⟩ = some (.int .i64 x) := fun v => by
            rw [ins_at (ins_set howu.out (k := k + 1) (by omega) v) (by rw [List.length_set]; exact hzs.out.1) (k := k) (by omega), ← HXY.out.1]
            simp [at0]
          have e2 : ∀ v, (wr.setCell ⟨g, k, none⟩ (.int .i64 v)).cell? ⟨g, k + 1, none⟩ = some (.int .i64 y) := fun v => by
            rw [ins_at (ins_set howu.out (k := k) (by omega) v) (by rw [List.length_set]; exact hzs.out.1) (k := k + 1) (by omega), ← HXY.out.2]
            simp [at0]
          by_cases hyx : y < x
          · go_wp2_with fail
            go_region
            all_goals go_wp2_with fail
            go_region
            all_goals go_wp2_with fail
            have ho := ((ins_set (ins_set howu.out (k := k + 1) (by omega) x) (k := k) (by omega) y).drew).drew
            rw [show (zs.set (k + 1) x).set k y = swap zs k by unfold swap; rw [HXY.out.1, HXY.out.2]] at ho
            exact ⟨⟨k, swap zs k, by omega, rfl, ⟨by rw [swap_len]; exact hzs.out.1, (swap_perm zs k (by have := hzs.out.1; omega)).trans hzs.out.2.1, ins_step hzs.out.2.2 hk (by have := hzs.out.1; omega) (by rw [HXY.out.1, HXY.out.2]; exact hyx)⟩,
              grown_trans (ins_grow (ins_grow hgu _ _) _ _) (grown_trans (grown_drewN _ _ 1) (grown_drewN _ _ 1)), ho⟩, by simp [intOf]⟩
          · go_wp2_with fail
            go_region
            all_goals go_wp2_with fail
            all_goals exact ⟨⟨i + 1, zs, by omega, by simp, ⟨hzs.out.1, hzs.out.2.1, ins_end hzs.out.2.2 (by omega) (.inr (by rw [Nat.add_sub_cancel, HXY.out.1, HXY.out.2]; omega))⟩, grown_trans hgu (grown_drewN _ _ 1), howu.out.drew⟩, by simp [intOf]; omega⟩
    · have hie : i = n := by omega
      subst hie
      obtain ⟨y1, y2, y3⟩ := hys.out
      obtain ⟨m, hm⟩ : ∃ m, (i - 1) / 2 = m := ⟨_, rfl⟩
      have ck := ins_at howt.out y1 (k := m) (by omega)
      have HV : Hid (midV xs = at0 ys m) := by
        show _ = _
        unfold midV nthZ at0
        rw [mid_of y2 (by rw [← y1] at y3; exact upto_sorted y3), HN.out, hm, List.getD_eq_getElem?_getD]
      obtain ⟨v, hv⟩ : ∃ v, at0 ys m = v := ⟨_, rfl⟩
      rw [hv] at ck
      have HV := Lib.hid (HV.out.trans hv)
      have r1 : IntKind.i64.wrap ((i : Int) - 1) = (i : Int) - 1 := IntWalk.i64_in _ (by omega)
      have r2 : ((i : Int) - 1).tdiv 2 = (m : Int) := by rw [Int.tdiv_eq_ediv_of_nonneg (by omega)]; omega
      have r3 : IntKind.i64.wrap (m : Int) = (m : Int) := IntWalk.i64_in _ (by omega)
      have i0 : (0 : Int) ≤ (m : Int) := by omega
      have i1 : (m : Int) < (i : Int) := by omega
      have HG := Lib.hid hgt
      clear y1 y2 y3 hys howt hv hm hgt
      go_wp2_with fail
      go_ret
      exact ⟨ret_int HV.out.symm, HG.out⟩
end Go.Proofs.Ytgkhhfojioepgaa
