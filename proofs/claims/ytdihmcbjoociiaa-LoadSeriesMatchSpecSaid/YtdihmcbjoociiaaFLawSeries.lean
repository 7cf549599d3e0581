/- For all loads, Series, Peak and Step return what the reference returns: the walk. -/
import Derived.Test.YtdihmcbjoociiaaFPeak
import Derived.Test.YtdihmcbjoociiaaFTold
namespace Go.Proofs.Ytdihmcbjoociiaa
open Go.RowKit

theorem seriesN_le (l : List Int) (c first : Int) : seriesN l c first ≤ 5000 := by
  unfold seriesN
  split
  · rename_i h; have := (series_ok h).len; omega
  · omega

set_option maxRecDepth 100000 in
set_option maxHeartbeats 1600000 in
theorem series_law (ao : Option Addr) (cap : Nat) (l : List Int) (hl : (l.length : Int) ≤ 9223372036854775807) (c first day : Int) (w : World) (hs : IntsAt w ao l) (_ : l.length ≤ cap) :
    Calls Try.prog 5 #[.slice ao l.length cap, .int .i64 c, .int .i64 first, .int .i64 day] w fun e w' => e = .returned (.bool true) ∧ w.grownBy w' none := by
  obtain ⟨E, hE⟩ : ∃ e, seriesE l c first = e := ⟨_, rfl⟩
  obtain ⟨n, hn⟩ : ∃ n, seriesN l c first = n := ⟨_, rfl⟩
  obtain ⟨P, hP⟩ : ∃ e, peakE l c first = e := ⟨_, rfl⟩
  obtain ⟨p, hp⟩ : ∃ n, peakV l c first = n := ⟨_, rfl⟩
  obtain ⟨T, hT⟩ : ∃ e, fstepE first day c = e := ⟨_, rfl⟩
  obtain ⟨t, ht⟩ : ∃ n, fstepV first day c = n := ⟨_, rfl⟩
  have HE := Lib.hid hE; have HN := Lib.hid hn; have HP := Lib.hid hP; have Hp := Lib.hid hp; have HT := Lib.hid hT; have Ht := Lib.hid ht
  have HS := Lib.hid hs
  have HN5 : Hid (n ≤ 9223372036854775807) := by show _ ≤ _; have := seriesN_le l c first; omega
  clear hE hn hP hp hT ht hs
  go_enter Try.func5, Try.ntmps5
  go_wp2_with fail
  refine (series_any ao cap l hl c first w HS.out HE HN).mono ?_; rintro e w1 ⟨⟨a1, c1, rfl, hF1⟩, hg1⟩
  have K := Lib.hid hg1; have HF1 := Lib.hid hF1
  clear hg1 hF1
  go_wp2_with fail
  refine (rseries_any ao cap l hl c first w1 (HS.out.grown K.out) HE HN).mono ?_; rintro e w2 ⟨⟨a2, c2, rfl, hF2⟩, hg2⟩
  have HF2 := Lib.hid hF2
  replace HF1 := Lib.hid (HF1.out.grown hg2)
  replace K := Lib.hid (grown_trans K.out hg2)
  clear hg2 hF2
  go_wp2_with fail
  refine (peak_any ao cap l hl c first w2 (HS.out.grown K.out) HP Hp).mono ?_; rintro e w3 ⟨rfl, hg3⟩
  replace HF1 := Lib.hid (HF1.out.grown hg3)
  replace HF2 := Lib.hid (HF2.out.grown hg3)
  replace K := Lib.hid (grown_trans K.out hg3)
  clear hg3
  go_wp2_with fail
  refine (rpeak_any ao cap l hl c first w3 (HS.out.grown K.out) HP Hp).mono ?_; rintro e w4 ⟨rfl, hg4⟩
  replace HF1 := Lib.hid (HF1.out.grown hg4)
  replace HF2 := Lib.hid (HF2.out.grown hg4)
  replace K := Lib.hid (grown_trans K.out hg4)
  clear hg4
  go_wp2_with fail
  refine (Step_any first day c w4 HT Ht).mono ?_; rintro e w5 ⟨rfl, rfl⟩
  go_wp2_with fail
  refine (RStep_any first day c w4 HT Ht).mono ?_; rintro e w5 ⟨rfl, rfl⟩
  go_wp2_with fail
  refine (equal_fints HF1.out HF2.out (fun _ _ => rfl) HN5.out).mono ?_; rintro e w5 ⟨rfl, hg5⟩
  replace K := Lib.hid (grown_trans K.out hg5)
  clear hg5 HF1 HF2
  go_wp2_with fail
  refine (ftold_any _).mono ?_; rintro e w6 ⟨rfl, hg6⟩
  replace K := Lib.hid (grown_trans K.out hg6)
  clear hg6
  go_wp2_with fail
  go_ret
  exact ⟨by first | rfl | simp, K.out⟩

end Go.Proofs.Ytdihmcbjoociiaa
