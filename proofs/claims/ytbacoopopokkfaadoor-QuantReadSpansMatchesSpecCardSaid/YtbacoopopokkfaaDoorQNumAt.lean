/- What the run of a number token calls: whether the digits so far begin a number, and their value. -/
import Derived.Test.YtbacoopopokkfaaDoorQNumTok
import Derived.Test.YtbacoopopokkfaaDoorQAtoi
namespace Go.Proofs.YtbacoopopokkfaaDoor
open Go.RowKit
set_option linter.unusedSimpArgs false
set_option linter.unusedVariables false

theorem ext_list (s : ByteArray) (k e : Nat) : (s.extract k e).data.toList = (s.data.toList.drop k).take (e - k) := by
  simp
theorem ext_size (s : ByteArray) (k e : Nat) (he : e ≤ s.size) : (s.extract k e).size = e - k := by
  simp
  omega
theorem ext_head (s : ByteArray) (k e : Nat) (hk : k < e) (he : e ≤ s.size) (h : 0 < (s.extract k e).size) : (s.extract k e)[0] = s[k] := by
  simp [ByteArray.getElem_extract]

/-- The token's begins, at the digits from k on up to p. -/
theorem begins_at (lo hi : Int) (dg : Nat) (hlo : 0 ≤ lo) (hlo1 : lo ≤ 1) (hh0 : 0 ≤ hi) (hh1 : hi ≤ 100000000000000) (hdg : dg ≤ 18) (s : ByteArray) (hs : s.size ≤ 100000) (k p : Nat) (hkp : k ≤ p) (hp : p < s.size) (n c : Nat)
    (hd : Lib.decFrom 0 ((s.data.toList.drop k).take (p + 1 - k)) = some n) (hc : s[k].toNat = c) (w : World) {B : Bool} (hB : Hid (decide (((p + 1 - k : Nat) : Int) ≤ (dg : Int) ∧ ¬ (1 < p + 1 - k ∧ c = 48) ∧ lo ≤ (n : Int) ∧ (n : Int) ≤ hi) = B)) :
    Calls Tryd.prog 57 #[.agg #[.int .i64 2, .string ⟨#[]⟩, .int .i64 lo, .int .i64 hi, .int .i64 (dg : Int)], .string (s.extract k (p + 1))] w fun e w' => e = .returned (.bool B) ∧ w.grownBy w' none := by
  have hz := ext_size s k (p + 1) (by omega)
  have h0 : 0 < (s.extract k (p + 1)).size := by omega
  have hdn : Lib.decNat (s.extract k (p + 1)).data.toList = some n := by
    rw [ext_list]
    unfold Lib.decNat
    rw [if_neg]
    · exact hd
    · have : ((s.data.toList.drop k).take (p + 1 - k)).length ≠ 0 := by
        rw [← ext_list]
        have : (s.extract k (p + 1)).data.toList.length = (s.extract k (p + 1)).size := Array.length_toList
        omega
      cases hq : (s.data.toList.drop k).take (p + 1 - k) with
      | nil => rw [hq] at this; simp at this
      | cons a r => simp
  exact begins_any lo hi (dg : Int) (s.extract k (p + 1)) c (by omega) (by omega) hlo hlo1 hh0 hh1 (by omega) n (Lib.hid hdn) (Lib.hid (by rw [ext_head s k (p + 1) (by omega) (by omega) h0]; exact hc)) w (Lib.hid (by rw [hz]; exact hB.out))

/-- Atoi at the digits from k on up to p. -/
theorem atoi_at (s : ByteArray) (k p : Nat) (hkp : k < p) (hp : p ≤ s.size) (h18 : p - k ≤ 18) (n : Nat) (hd : Lib.decFrom 0 ((s.data.toList.drop k).take (p - k)) = some n) (w : World) :
    Calls Tryd.prog 58 #[.string (s.extract k p)] w fun e w' => e = .returned (.tuple #[.int .i64 (n : Int), .nilIface]) ∧ w.grownBy w' none := by
  have hz := ext_size s k p hp
  refine atoi_any (s.extract k p) n (by omega) ?_ w
  rw [ext_list]
  unfold Lib.decNat
  rw [if_neg]
  · exact hd
  · have : ((s.data.toList.drop k).take (p - k)).length ≠ 0 := by
      rw [← ext_list]
      have : (s.extract k p).data.toList.length = (s.extract k p).size := Array.length_toList
      omega
    cases hq : (s.data.toList.drop k).take (p - k) with
    | nil => rw [hq] at this; simp at this
    | cons a r => simp
end Go.Proofs.YtbacoopopokkfaaDoor
