/- What a number token's run comes to, byte by byte. -/
import Derived.Test.YtbacoopopokkfaaDoorQNumTok
import Derived.Test.YtbacoopopokkfaaDoorQNumAt
import Derived.BigQuiet
namespace Go.Proofs.YtbacoopopokkfaaDoor
open Go.RowKit
set_option linter.unusedSimpArgs false
set_option linter.unusedVariables false

/-- The token's block, as the walk holds it. -/
def NumBox (w W : World) (lo hi : Int) (dg : Nat) : Prop :=
  w.grownBy W none ∧ W.cell? ⟨w.heap.size, 0, none⟩ = some (.int .i64 2) ∧ W.cell? ⟨w.heap.size, 1, none⟩ = some (.string ⟨#[]⟩) ∧ W.cell? ⟨w.heap.size, 2, none⟩ = some (.int .i64 lo) ∧ W.cell? ⟨w.heap.size, 3, none⟩ = some (.int .i64 hi) ∧ W.cell? ⟨w.heap.size, 4, none⟩ = some (.int .i64 (dg : Int))
theorem NumBox.step {w W W' : World} {lo hi : Int} {dg : Nat} (h : NumBox w W lo hi dg) (g : W.grownBy W' none) : NumBox w W' lo hi dg :=
  ⟨grown_trans h.1 g, g.cell h.2.1 (by simp), g.cell h.2.2.1 (by simp), g.cell h.2.2.2.1 (by simp), g.cell h.2.2.2.2.1 (by simp), g.cell h.2.2.2.2.2 (by simp)⟩
theorem NumBox.new (w : World) (lo hi : Int) (dg : Nat) : NumBox w (w.alloc (.cells #[.int .i64 2, .string ⟨#[]⟩, .int .i64 lo, .int .i64 hi, .int .i64 (dg : Int)] 57)) lo hi dg :=
  ⟨World.grownBy_alloc _ _ _, by simp, by simp, by simp, by simp, by simp⟩

theorem ext_none (s : ByteArray) (k : Nat) : s.extract k k = ⟨#[]⟩ := by
  apply ByteArray.ext
  simp

/-- Where the digits end: what is said of them. -/
def NumEnd (lo : Int) (s : ByteArray) (k p : Nat) (v : Int) (ok : Bool) (u : Nat) : Prop :=
  (k = p ∧ v = 0 ∧ ok = false ∧ u = 0) ∨ (k < p ∧ p - k ≤ 18 ∧ ∃ n : Nat, Lib.decFrom 0 ((s.data.toList.drop k).take (p - k)) = some n ∧ v = (n : Int) ∧ ok = true ∧ u = p - k ∧ lo ≤ (n : Int))

theorem num_atoi {w W : World} {lo hi : Int} {dg : Nat} {s : ByteArray} {k p : Nat} {v : Int} {ok : Bool} {u : Nat} (hp : p ≤ s.size) (hE : Hid (NumEnd lo s k p v ok u)) {ev : Value} (hv : w.cell? ⟨4, 0, none⟩ = some ev) (hev : ev = .nilIface ∨ ∃ te pe, ev = .iface te pe) (h : NumBox w W lo hi dg) :
    Calls Tryd.prog 58 #[.string (s.extract k p)] W fun e w' => (∃ x, e = .returned (.tuple #[.int .i64 v, x])) ∧ NumBox w w' lo hi dg := by
  rcases hE.out with ⟨rfl, rfl, _, _⟩ | ⟨h1, h2, n, hd, rfl, _, _, _⟩
  · rw [ext_none]
    refine (atoi_none ev W (h.1.cell hv (by simp)) hev).mono ?_
    rintro e w' ⟨hx, g⟩
    exact ⟨hx, h.step g⟩
  · refine (atoi_at s k p h1 hp h2 n hd W).mono ?_
    rintro e w' ⟨rfl, g⟩
    exact ⟨⟨_, rfl⟩, h.step g⟩

theorem num_end_st {lo hi : Int} {s : ByteArray} {k p n c : Nat} {v : Int} {ok : Bool} {u dg : Nat} (hdg : dg ≤ 18) (hk : k ≤ p) (hj : p - k ≤ dg) (h : NumSt lo hi (s.data.toList.drop k) (p - k) n c) (hp : numV lo hi (rem s k) = ⟨v, ok, u⟩) (he : numV lo hi ((s.data.toList.drop k).map UInt8.toNat) = ⟨n, true, p - k⟩) : NumEnd lo s k p v ok u := by
  have e : numV lo hi (rem s k) = ⟨(n : Int), true, p - k⟩ := he
  rw [hp] at e
  simp only [Got.mk.injEq] at e
  have := h.j1
  exact .inr ⟨by omega, by omega, n, h.dec, e.1, e.2.1, e.2.2, h.low⟩
theorem num_end_none {lo hi : Int} {s : ByteArray} {k : Nat} {v : Int} {ok : Bool} {u : Nat} (hp : numV lo hi (rem s k) = ⟨v, ok, u⟩) (he : numV lo hi ((s.data.toList.drop k).map UInt8.toNat) = ⟨0, false, 0⟩) : NumEnd lo s k k v ok u := by
  have e : numV lo hi (rem s k) = ⟨0, false, 0⟩ := he
  rw [hp] at e
  simp only [Got.mk.injEq] at e
  exact .inl ⟨rfl, e.1, e.2.1, e.2.2⟩

/-- How far the reference has come. -/
def NumAt (lo hi : Int) (dg : Nat) (s : ByteArray) (k p : Nat) : Prop := k = p ∨ (p - k ≤ dg ∧ ∃ n c, NumSt lo hi (s.data.toList.drop k) (p - k) n c)

theorem drop_at {s : ByteArray} {k p : Nat} (hk : k ≤ p) (hp : p < s.size) : ∃ h : p - k < (s.data.toList.drop k).length, (s.data.toList.drop k)[p - k] = s[p] := by
  have hl : s.data.toList.length = s.size := Array.length_toList
  refine ⟨by rw [List.length_drop]; omega, ?_⟩
  rw [List.getElem_drop]
  have e : k + (p - k) = p := by omega
  simp only [e]
  rfl

/-- One byte more: the digits end before it, or it is asked whether they begin a number with it. -/
theorem num_more {lo hi : Int} {dg : Nat} (hlo : 0 ≤ lo) (hlo1 : lo ≤ 1) (h9 : 9 ≤ hi) (hh1 : hi ≤ 100000000000000) (hdg1 : 1 ≤ dg) (hdg : dg ≤ 18) (hdh : hi < ((10 ^ dg : Nat) : Int)) {s : ByteArray} (hs : s.size ≤ 100000) {k p : Nat} (hk : k ≤ p) (hp : p < s.size)
    {v : Int} {ok : Bool} {u : Nat} (hnv : numV lo hi (rem s k) = ⟨v, ok, u⟩) (h : NumAt lo hi dg s k p) (hd : isDig s[p].toNat = true) :
    ∃ B : Bool, (∀ w, Calls Tryd.prog 57 #[.agg #[.int .i64 2, .string ⟨#[]⟩, .int .i64 lo, .int .i64 hi, .int .i64 (dg : Int)], .string (s.extract k (p + 1))] w fun e w' => e = .returned (.bool B) ∧ w.grownBy w' none) ∧
      (B = true → NumAt lo hi dg s k (p + 1)) ∧ (B = false → NumEnd lo s k p v ok u) := by
  obtain ⟨hl, he⟩ := drop_at hk hp
  rcases h with rfl | ⟨hj, n, c, hst⟩
  · have hl' : 0 < (s.data.toList.drop k).length := by simpa using hl
    obtain ⟨b, r, hbr⟩ : ∃ b r, s.data.toList.drop k = b :: r := by
      cases hq : s.data.toList.drop k with
      | nil => rw [hq] at hl'; simp at hl'
      | cons b r => exact ⟨b, r, rfl⟩
    have hb : b = s[k] := by rw [← he]; simp [hbr]
    have hdb : isDig b.toNat = true := by rw [hb]; exact hd
    have hdd := hdb
    simp only [isDig, Bool.and_eq_true, decide_eq_true_eq] at hdd
    have hdec : Lib.decFrom 0 ((s.data.toList.drop k).take (k + 1 - k)) = some (b.toNat - 48) := by
      have e1 : k + 1 - k = 1 := by omega
      rw [hbr, e1]
      simp only [List.take_succ_cons, List.take_zero, Lib.decFrom, dig_val hdb]
      simp
    refine ⟨_, fun w => begins_at lo hi dg hlo hlo1 (by omega) hh1 hdg s hs k k (Nat.le_refl _) hp _ b.toNat hdec (by rw [hb]) w (Lib.hid rfl), fun hB => ?_, fun hB => ?_⟩
    · have hB' := of_decide_eq_true hB
      refine .inr ⟨by omega, b.toNat - 48, b.toNat, ?_⟩
      have e1 : k + 1 - k = 1 := by omega
      rw [hbr, e1]
      exact num_start h9 hdb (by have := hB'.2.2.1; omega)
    · have hB' := of_decide_eq_false hB
      refine num_end_none hnv ?_
      rw [hbr]
      refine num_start_no hlo (fun q => hB' ⟨by omega, by omega, by have := q.2; omega, by omega⟩)
  · have hdb : isDig (s.data.toList.drop k)[p - k].toNat = true := by rw [he]; exact hd
    have hmay := num_may hdh hst hlo hdb
    have hdec := num_dec hst hl hdb
    obtain ⟨b, r, hbr, hbc⟩ := hst.head
    have e1 : p - k + 1 = p + 1 - k := by omega
    have hk0 : s[k].toNat = c := by
      obtain ⟨_, h0⟩ := drop_at (Nat.le_refl k) (show k < s.size by omega)
      rw [← hbc, ← h0]
      simp [hbr]
    rw [e1] at hdec
    refine ⟨_, fun w => begins_at lo hi dg hlo hlo1 (by omega) hh1 hdg s hs k p hk hp _ c hdec hk0 w (Lib.hid rfl), fun hB => ?_, fun hB => ?_⟩
    · have hB' := of_decide_eq_true hB
      have := hst.j1
      have hm : NumMay lo hi dg (p - k) n c (s.data.toList.drop k)[p - k].toNat := by
        unfold NumMay; rw [e1]; exact hB'
      have hn := num_step hst hl hdb (hmay.1 hm)
      rw [e1] at hn
      exact .inr ⟨by have := hm.1; omega, _, _, hn⟩
    · have hB' := of_decide_eq_false hB
      have hm : ¬ NumMay lo hi dg (p - k) n c (s.data.toList.drop k)[p - k].toNat := by
        unfold NumMay; rw [e1]; exact hB'
      exact num_end_st hdg hk hj hst hnv (num_stop hst hl (fun q => hm (hmay.2 q)))

theorem num_out {lo hi : Int} {dg : Nat} (hlo : 0 ≤ lo) (hdg : dg ≤ 18) {s : ByteArray} {k p : Nat} (hk : k ≤ p) {v : Int} {ok : Bool} {u : Nat} (hnv : numV lo hi (rem s k) = ⟨v, ok, u⟩) (h : NumAt lo hi dg s k p)
    (ho : s.size ≤ p ∨ ∃ hp : p < s.size, isDig s[p].toNat = false) : NumEnd lo s k p v ok u := by
  have hl : s.data.toList.length = s.size := Array.length_toList
  rcases h with rfl | ⟨hj, n, c, hst⟩
  · refine num_end_none hnv ?_
    rcases ho with ho | ⟨hp, hd⟩
    · rw [List.drop_eq_nil_of_le (by omega)]; rfl
    · obtain ⟨hl2, he⟩ := drop_at (Nat.le_refl k) hp
      cases hq : s.data.toList.drop k with
      | nil => rfl
      | cons b r =>
        have hb : b = s[k] := by rw [← he]; simp [hq]
        exact num_start_no hlo (fun q => by rw [hb, hd] at q; exact absurd q.1 (by simp))
  · refine num_end_st hdg hk hj hst hnv ?_
    rcases ho with ho | ⟨hp, hd⟩
    · exact num_end hst (by rw [List.length_drop]; omega)
    · obtain ⟨hl2, he⟩ := drop_at hk hp
      exact num_nodig hst hl2 (by rw [he]; exact hd)
end Go.Proofs.YtbacoopopokkfaaDoor
