/- For every text, ReadSpans returns what is specified: the walk. -/
import Derived.Test.YtbacoopopokkfaaDoorQRRdS
import Derived.Test.YtbacoopopokkfaaDoorQSpB
import Derived.Test.YtbacoopopokkfaaDoorQTold
namespace Go.Proofs.YtbacoopopokkfaaDoor
open Go.RowKit
set_option linter.unusedSimpArgs false
set_option linter.unusedVariables false

theorem sp_rowsR {b : Nat} {w : World} {p : Option Addr} {c : Nat} {L : List SpV} (h : SpOwn b w (.slice p L.length c) L) : RowsAt spCs 2 w p L := by
  obtain ⟨q, d, e, r⟩ := h.rows
  simp only [Value.slice.injEq] at e
  rw [e.1]; exact r
theorem rds_len {s : ByteArray} {l : List SpV} {a e : Int} (h : rdsR s = (l, a, e)) : l.length ≤ 1000 := by
  unfold rdsR at h
  split at h
  · split at h
    · simp only [Prod.mk.injEq] at h; rw [← h.1]; simp
    · split at h
      · simp only [Prod.mk.injEq] at h; rw [← h.1]; simp
      · split at h
        · simp only [Prod.mk.injEq] at h; rw [← h.1]; simp
        · simp only [Prod.mk.injEq] at h; rw [← h.1]; omega
  · simp only [Prod.mk.injEq] at h; rw [← h.1]; simp

set_option maxRecDepth 100000 in
set_option maxHeartbeats 3200000 in
theorem rds_law (s : ByteArray) (w : World) (hs : s.size ≤ 140737488351232) {ev : Value} (hv : w.cell? ⟨4, 0, none⟩ = some ev) (hev : ev = .nilIface ∨ ∃ te pe, ev = .iface te pe) :
    Calls Tryd.prog 4 #[.string s] w fun e w' => e = .returned (.bool true) ∧ w.grownBy w' none := by
  obtain ⟨l, a, e, hr⟩ : ∃ l a e, rdsR s = (l, a, e) := ⟨_, _, _, rfl⟩
  have HR := Lib.hid hr; have HL := Lib.hid (rds_len hr); have HV := Lib.hid (And.intro hv hev)
  clear hr hv hev
  go_enter Tryd.func4, Tryd.ntmps4
  go_wp2_with fail
  refine (ReadSpans_is s hs w HR.out).mono ?_
  rintro x w1 ⟨⟨v1, rfl, ho1⟩, hg1⟩
  obtain ⟨p1, c1, rfl, hr1⟩ := ho1.rows
  have HG := Lib.hid hg1; have R1 := Lib.hid hr1
  clear ho1 hg1 hr1
  go_wp2_with fail
  refine (rReadSpans_is s hs w1 (grown_cell HG.out HV.out.1) HV.out.2 HR.out).mono ?_
  rintro x w2 ⟨⟨v2, rfl, ho2⟩, hg2⟩
  obtain ⟨p2, c2, rfl, hr2⟩ := ho2.rows
  have HG2 := Lib.hid (grown_trans HG.out hg2); have R2 := Lib.hid hr2; have R3 := Lib.hid (R1.out.grown hg2)
  clear ho2 hg2 hr2 HG R1
  go_wp2_with fail
  refine (equal_spans (L := l) R3.out R2.out (by have := HL.out; omega)).mono ?_
  rintro x w3 ⟨rfl, hg3⟩
  have HG3 := Lib.hid (grown_trans HG2.out hg3)
  clear hg3
  go_wp2_with fail
  refine (told_any _).mono ?_; rintro x w4 ⟨rfl, hg4⟩
  have HG4 := Lib.hid (grown_trans HG3.out hg4)
  clear hg4
  go_wp2_with fail
  go_ret
  exact ⟨rfl, HG4.out⟩
/-- What the walk wants of the heap: strconv.ErrSyntax holds an error or nil. -/
def SynIs (w : World) : Prop := ∃ ev, w.cell? ⟨4, 0, none⟩ = some ev ∧ (ev = .nilIface ∨ ∃ te pe, ev = .iface te pe)
theorem rds_walk (s : ByteArray) (w : World) (hs : s.size ≤ 140737488351232) (ht : SynIs w) :
    Calls Tryd.prog 4 #[.string s] w fun e w' => e = .returned (.bool true) ∧ w.grownBy w' none :=
  let ⟨_, hv, hev⟩ := ht
  rds_law s w hs hv hev
end Go.Proofs.YtbacoopopokkfaaDoor
