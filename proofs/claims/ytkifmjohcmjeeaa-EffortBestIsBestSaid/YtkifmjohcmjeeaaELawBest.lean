/- For all streams, sizes and places, no known window has a greater sum than Best tells: the walk. -/
import Derived.Test.YtkifmjohcmjeeaaETold
import Derived.Test.YtkifmjohcmjeeaaEBestP
import Derived.Test.YtkifmjohcmjeeaaERZones
namespace Go.Proofs.Ytkifmjohcmjeeaa
open Go.RowKit

/-- What the law's own sum tells. -/
def SumIs (l : List Int) (sz : Nat) (fr n : Int) (ok : Bool) : Prop := (ok = true ∧ ∃ a : Nat, fr = a ∧ KnownAt l sz a ∧ n = psum l (a + sz) - psum l a) ∨ (ok = false ∧ ¬ ∃ a : Nat, fr = a ∧ KnownAt l sz a)

def SumRet (l : List Int) (sz : Nat) (fr : Int) (e : Ending) : Prop := ∃ n ok, e = .returned (.tuple #[.int .i64 n, .bool ok]) ∧ SumIs l sz fr n ok

set_option maxRecDepth 100000 in
set_option maxHeartbeats 1600000 in
theorem lawsum_any (bl bs : Nat) (fr : Int) (ao : Option Addr) (cap : Nat) (l : List Int) (hl : (l.length : Int) ≤ 1000000) (hv : ∀ k, k < l.length → -1 ≤ nthI l k ∧ nthI l k ≤ 1000000000) (hcap : l.length ≤ cap) (sz : Nat) (h1 : 1 ≤ sz) (h2 : sz ≤ 1000000) (w : World) (hs : IntsAt w ao l)
    (hbl : w.cell? ⟨bl, 0, none⟩ = some (.slice ao l.length cap)) (hbs : w.cell? ⟨bs, 0, none⟩ = some (.int .i64 sz)) :
    Calls Try.prog 27 #[.int .i64 fr, .pointer (some ⟨bl, 0, none⟩), .pointer (some ⟨bs, 0, none⟩)] w fun e w' => SumRet l sz fr e ∧ w = w' := by
  have HS := Lib.hid hs; have HV := Lib.hid hv
  clear hs hv
  by_cases a0 : fr < 0
  · have HX : Hid (SumIs l sz fr 0 false) := .inr ⟨rfl, fun ⟨a, h, _⟩ => by omega⟩
    go_enter Try.func27, Try.ntmps27
    go_wp2
    go_ret2
    exact ⟨⟨0, false, rfl, HX.out⟩, rfl⟩
  · obtain ⟨a, rfl⟩ : ∃ a : Nat, fr = a := ⟨fr.toNat, by omega⟩
    have rs : IntKind.i64.wrap ((l.length : Int) - (sz : Int)) = (l.length : Int) - (sz : Int) := IntWalk.i64_in _ (by omega)
    by_cases a1 : (l.length : Int) - (sz : Int) < (a : Int)
    · have HX : Hid (SumIs l sz a 0 false) := .inr ⟨rfl, fun ⟨a', h, h', _⟩ => by omega⟩
      go_enter Try.func27, Try.ntmps27
      go_wp2
      go_ret2
      exact ⟨⟨0, false, rfl, HX.out⟩, rfl⟩
    · obtain ⟨b, off, rfl, hc⟩ := HS.out.at (by omega : 0 < l.length)
      have HC := Lib.hid hc
      have hal : a + sz ≤ l.length := by omega
      have hac : (a : Int) + (sz : Int) ≤ (cap : Int) := by omega
      have hal2 : (a : Int) + (sz : Int) ≤ (l.length : Int) := by omega
      have hle : (a : Int) ≤ (a : Int) + (sz : Int) := by omega
      have et : ((a : Int) + (sz : Int) - (a : Int)).toNat = sz := by omega
      have et2 : ((a : Int) + (sz : Int)).toNat = a + sz := by omega
      clear hc
      go_enter Try.func27, Try.ntmps27
      go_wp2
      go_loopw [6, 26] (fun nv iv wr => ∃ k : Nat, k ≤ sz ∧ nv = .int .i64 (psum l (a + k) - psum l a) ∧ iv = .int .i64 k ∧ w = wr ∧ Hid (∀ j, a ≤ j → j < a + k → 0 ≤ nthI l j))
        (fun _ iv _ => sz - (intOf iv).toNat)
      case atStart => exact ⟨0, Nat.zero_le _, by simp, rfl, by first | rfl | trivial, fun j h h' => by omega⟩
      case round =>
        obtain ⟨k, hk, rfl, rfl, rfl, hp⟩ := hrel
        by_cases hlt : k < sz
        · have c0 := HC.out (a + k) (by omega)
          have hb := psum_bd (l := l) (lo := 0) (hi := 1000000000) k a (fun j h h' => ⟨hp.out j h h', (HV.out j (by omega)).2⟩)
          have hb2 : 0 ≤ psum l (a + k) - psum l a ∧ psum l (a + k) - psum l a ≤ 1000000000000000 := by
            have hk2 : (k : Int) ≤ 1000000 := by omega
            refine ⟨by simpa using hb.1, ?_⟩
            have := hb.2
            omega
          have hvx := HV.out (a + k) (by omega)
          have hstep : psum l (a + (k + 1)) - psum l a = psum l (a + k) - psum l a + nthI l (a + k) := by
            rw [show a + (k + 1) = a + k + 1 by omega, psum]; omega
          have hnext : 0 ≤ nthI l (a + k) → Hid (∀ j, a ≤ j → j < a + (k + 1) → 0 ≤ nthI l j) := fun h0 j h h' => by
            by_cases hj : j = a + k
            · subst hj; exact h0
            · exact hp.out j h (by omega)
          have hnot : nthI l (a + k) < 0 → Hid (SumIs l sz a 0 false) := fun h0 => .inr ⟨rfl, fun ⟨a', h, h', h''⟩ => by
            obtain rfl : a' = a := by omega
            have := h'' (a' + k) (by omega) (by omega)
            omega⟩
          have had : off + (a + k) = off + a + k := by omega
          rw [had] at c0
          have HST := Lib.hid hstep
          have hks : (k : Int) < (sz : Int) := by omega
          clear hb hstep hp
          generalize psum l (a + k) - psum l a = y at *
          generalize nthI l (a + k) = x at *
          by_cases a3 : x < 0
          · have HX := hnot a3
            clear hnext hnot
            go_wp2
            go_ret2
            exact ⟨⟨0, false, rfl, HX.out⟩, rfl⟩
          · have HX := hnext (by omega)
            clear hnext hnot
            go_wp2
            go_roundw
            case rel => exact ⟨k + 1, hlt, by rw [HST.out], by go_num, by first | rfl | trivial, HX⟩
            case measure => simp [intOf]; omega
        · have hks : k = sz := by omega
          have HX : Hid (SumIs l sz a (psum l (a + k) - psum l a) true) := by
            refine .inl ⟨rfl, a, rfl, ⟨hal, ?_⟩, by rw [hks]⟩
            rw [← hks]; exact hp.out
          clear hp
          subst hks
          go_wp2
          go_ret2
          exact ⟨⟨_, _, rfl, HX.out⟩, rfl⟩

end Go.Proofs.Ytkifmjohcmjeeaa
