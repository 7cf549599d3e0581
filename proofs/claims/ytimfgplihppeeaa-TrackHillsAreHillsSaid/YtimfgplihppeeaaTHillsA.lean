/- The contracts of ascent and of the reference's reach. -/
import Derived.Test.YtimfgplihppeeaaTHillsP
import Derived.Test.YtimfgplihppeeaaTWays
import Derived.OwnWalk
namespace Go.Proofs.Ytimfgplihppeeaa
open Go.RowKit

def zOf (ss : List Smp) (k : Nat) : Int := (smpD ss k).z
theorem z_cell {w : World} {b off : Nat} {ss : List Smp} (hs : SmpsAt w (some ⟨b, off, none⟩) ss) {i : Nat} (h : i < ss.length) : w.cell? ⟨b, off + i * 7 + 3, none⟩ = some (.int .i64 (zOf ss i)) := by
  have := (hs.cells _ rfl i h).2.2.2.1
  unfold zOf
  rw [smpD_at h]; exact this

set_option maxHeartbeats 800000 in
theorem ascent_any (b off cap : Nat) (ss : List Smp) (hl : (ss.length : Int) ≤ 20000) (fr : Nat) (hfr : fr < ss.length) (dip : Int) (d0 : 0 ≤ dip) (d1 : dip ≤ 200000) (w : World) (hs : SmpsAt w (some ⟨b, off, none⟩) ss) (HZ : Hid (∀ k, -100000 ≤ zOf ss k ∧ zOf ss k ≤ 100000)) {P E : Nat} (hr : Hid (asc (zOf ss) ss.length dip fr = (P, E))) :
    Calls Try.prog 64 #[.slice (some ⟨b, off, none⟩) ss.length cap, .int .i64 fr, .int .i64 dip] w fun x w' => x = .returned (.tuple #[.int .i64 P, .int .i64 E]) ∧ w = w' := by
  have HS := Lib.hid hs; clear hs
  have HR : Hid (ascP (zOf ss) dip fr (ss.length - (fr + 1)) fr (fr + 1) = (P, E)) := hr.out
  clear hr
  go_enter Try.func64, Try.ntmps64
  go_wp2
  go_loop [6, 7] (fun pv ev => ∃ p e : Nat, pv = .int .i64 p ∧ ev = .int .i64 e ∧ fr ≤ p ∧ p < e ∧ e ≤ ss.length ∧ Hid (ascP (zOf ss) dip fr (ss.length - e) p e = (P, E)))
    (fun _ ev => ss.length - (intOf ev).toNat)
  case atStart => exact ⟨fr, fr + 1, rfl, by go_num, Nat.le_refl _, by omega, by omega, HR.out⟩
  case round =>
    obtain ⟨p, e, rfl, rfl, h1, h2, h3, hw⟩ := hrel
    by_cases hlt : e < ss.length
    · have ce := z_cell HS.out hlt
      have cf := z_cell HS.out hfr
      have cp := z_cell HS.out (by omega : p < ss.length)
      have be := HZ.out e
      have bf := HZ.out fr
      have bp := HZ.out p
      have HW := Lib.hid ((ascP_at (Z := zOf ss) (dip := dip) (fr := fr) (p := p) hlt).symm.trans hw.out)
      clear hw
      generalize zOf ss e = ze at *
      generalize zOf ss fr = zf at *
      generalize zOf ss p = zp at *
      by_cases a1 : ze < zf
      · have hv := HW.out
        rw [if_pos (Or.inl a1)] at hv
        have q := Prod.mk.inj hv
        have Q1 := Lib.hid q.1; have Q2 := Lib.hid q.2
        clear HW hv q
        go_wp2
        go_ret2
        exact ⟨ret_ii (by rw [Q1.out]) (by rw [Q2.out]), rfl⟩
      · by_cases a2 : dip < zp - ze
        · have hv := HW.out
          rw [if_pos (Or.inr a2)] at hv
          have q := Prod.mk.inj hv
          have Q1 := Lib.hid q.1; have Q2 := Lib.hid q.2
          clear HW hv q
          go_wp2
          go_ret2
          exact ⟨ret_ii (by rw [Q1.out]) (by rw [Q2.out]), rfl⟩
        · by_cases a3 : zp ≤ ze
          · have HV : Hid (ascP (zOf ss) dip fr (ss.length - (e + 1)) e (e + 1) = (P, E)) := by
              have hv := HW.out
              rw [if_neg (by omega), if_pos a3] at hv; exact hv
            clear HW
            go_wp2
            go_round
            case rel => exact ⟨e, e + 1, rfl, by go_num, by omega, by omega, by omega, HV.out⟩
            case measure => simp [intOf]; omega
          · have HV : Hid (ascP (zOf ss) dip fr (ss.length - (e + 1)) p (e + 1) = (P, E)) := by
              have hv := HW.out
              rw [if_neg (by omega), if_neg a3] at hv; exact hv
            clear HW
            go_wp2
            go_round
            case rel => exact ⟨p, e + 1, rfl, by go_num, by omega, by omega, by omega, HV.out⟩
            case measure => simp [intOf]; omega
    · have hv := hw.out
      rw [ascP_end (by omega)] at hv
      have q := Prod.mk.inj hv
      have Q1 := Lib.hid q.1; have Q2 := Lib.hid q.2
      clear hw hv q
      go_wp2
      go_ret2
      exact ⟨ret_ii (by rw [Q1.out]) (by rw [Q2.out]), rfl⟩

set_option maxHeartbeats 1600000 in
theorem reach_any (b off cap : Nat) (ss : List Smp) (hl : (ss.length : Int) ≤ 20000) (fr : Nat) (hfr : fr < ss.length) (dip : Int) (d0 : 0 ≤ dip) (d1 : dip ≤ 200000) (w : World) (hs : SmpsAt w (some ⟨b, off, none⟩) ss) (HZ : Hid (∀ k, -100000 ≤ zOf ss k ∧ zOf ss k ≤ 100000)) {P E : Nat} (hr : Hid (asc (zOf ss) ss.length dip fr = (P, E))) :
    Calls Try.prog 68 #[.slice (some ⟨b, off, none⟩) ss.length cap, .int .i64 fr, .int .i64 dip] w fun x w' => x = .returned (.int .i64 P) ∧ w.grownBy w' none := by
  have HS := Lib.hid hs; clear hs
  have HR : Hid (ascP (zOf ss) dip fr (ss.length - (fr + 1)) fr (fr + 1) = (P, E)) := hr.out
  clear hr
  go_enter Try.func68, Try.ntmps68
  go_wp2
  go_loopw [7, 8] (fun pv ev wr => ∃ p e : Nat, pv = .int .i64 p ∧ ev = .int .i64 e ∧ fr ≤ p ∧ p < e ∧ e ≤ ss.length ∧ Hid (ascP (zOf ss) dip fr (ss.length - e) p e = (P, E)) ∧ Hid (w.grownBy wr none))
    (fun _ ev _ => ss.length - (intOf ev).toNat)
  case atStart => exact ⟨fr, fr + 1, rfl, by go_num, Nat.le_refl _, by omega, by omega, HR.out, grown_refl _ _⟩
  case round =>
    obtain ⟨p, e, rfl, rfl, h1, h2, h3, hw, hg⟩ := hrel
    by_cases hlt : e < ss.length
    · have hs2 := HS.out.grown hg.out
      have ce := z_cell hs2 hlt
      have cf := z_cell hs2 hfr
      have cp := z_cell hs2 (by omega : p < ss.length)
      have be := HZ.out e
      have bf := HZ.out fr
      have bp := HZ.out p
      have g1 : decide ((e : Int) < (ss.length : Int)) = true := by simp; omega
      have g2 : decide (e < ss.length) = true := by simp; omega
      have HW := Lib.hid ((ascP_at (Z := zOf ss) (dip := dip) (fr := fr) (p := p) hlt).symm.trans hw.out)
      clear hw hs2
      generalize zOf ss e = ze at *
      generalize zOf ss fr = zf at *
      generalize zOf ss p = zp at *
      have rs : IntKind.i64.wrap (zp - ze) = zp - ze := IntWalk.i64_in _ (by omega)
      by_cases a1 : ze < zf
      · have hv := HW.out
        rw [if_pos (Or.inl a1)] at hv
        have q := Prod.mk.inj hv
        have Q1 := Lib.hid q.1
        have g3 : decide (zf ≤ ze) = false := by simp; omega
        clear HW hv q
        go_wp2_with fail
        go_quiet (fail)
        go_wp2_with fail
        go_ret
        exact ⟨ret_int (by rw [Q1.out]), grown_trans hg.out (grown_drewN _ _ _)⟩
      · have g3 : decide (zf ≤ ze) = true := by simp; omega
        have a1' : zf ≤ ze := by omega
        by_cases a2 : dip < zp - ze
        · have hv := HW.out
          rw [if_pos (Or.inr a2)] at hv
          have q := Prod.mk.inj hv
          have Q1 := Lib.hid q.1
          have g4 : decide (zp - ze ≤ dip) = false := by simp; omega
          clear HW hv q
          go_wp2_with fail
          go_quiet (fail)
          go_wp2_with fail
          go_ret
          exact ⟨ret_int (by rw [Q1.out]), grown_trans hg.out (grown_drewN _ _ _)⟩
        · have g4 : decide (zp - ze ≤ dip) = true := by simp; omega
          have a2' : zp - ze ≤ dip := by omega
          by_cases a3 : zp ≤ ze
          · have HV : Hid (ascP (zOf ss) dip fr (ss.length - (e + 1)) e (e + 1) = (P, E)) := by
              have hv := HW.out
              rw [if_neg (by omega), if_pos a3] at hv; exact hv
            clear HW
            go_wp2_with fail
            go_quiet (fail)
            go_wp2_with fail
            go_quiet (fail)
            go_wp2_with fail
            go_roundw
            case rel => exact ⟨e, e + 1, rfl, by go_num, by omega, by omega, by omega, HV.out, grown_trans hg.out (grown_drewN _ _ _)⟩
            case measure => simp [intOf]; omega
          · have HV : Hid (ascP (zOf ss) dip fr (ss.length - (e + 1)) p (e + 1) = (P, E)) := by
              have hv := HW.out
              rw [if_neg (by omega), if_neg a3] at hv; exact hv
            clear HW
            go_wp2_with fail
            go_quiet (fail)
            go_wp2_with fail
            go_quiet (fail)
            go_wp2_with fail
            go_roundw
            case rel => exact ⟨p, e + 1, rfl, by go_num, by omega, by omega, by omega, HV.out, grown_trans hg.out (grown_drewN _ _ _)⟩
            case measure => simp [intOf]; omega
    · have hv := hw.out
      rw [ascP_end (by omega)] at hv
      have q := Prod.mk.inj hv
      have Q1 := Lib.hid q.1
      have g1 : decide ((e : Int) < (ss.length : Int)) = false := by simp; omega
      have g2 : decide (e < ss.length) = false := by simp; omega
      clear hw hv q
      go_wp2_with fail
      go_quiet (fail)
      go_wp2_with fail
      go_ret
      exact ⟨ret_int (by rw [Q1.out]), grown_trans hg.out (grown_drewN _ _ _)⟩

end Go.Proofs.Ytimfgplihppeeaa
