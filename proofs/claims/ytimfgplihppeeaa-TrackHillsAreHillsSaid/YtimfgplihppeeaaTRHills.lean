/- The contract of the reference's Hills. -/
import Derived.Test.YtimfgplihppeeaaTHills
import Derived.Test.YtimfgplihppeeaaTRWaysM
import Derived.Test.YtimfgplihppeeaaTRChk
namespace Go.Proofs.Ytimfgplihppeeaa
open Go.RowKit

theorem hillsR_at {Z W : Nat → Int} {n : Nat} {least dip : Int} (hd : 0 ≤ dip) {fr p e : Nat} (h : fr < n) (hr : asc Z n dip fr = (p, e)) :
    hillsR Z W n least dip (n - fr) fr = if Z p - Z fr < least then hillsR Z W n least dip (n - (fr + 1)) (fr + 1) else hillV Z W fr p :: hillsR Z W n least dip (n - (p + 1)) (p + 1) := by
  obtain ⟨a, b, c⟩ := asc_fwd (Z := Z) hd h
  rw [hr] at a b c
  simp only at a b c
  rw [show n - fr = (n - (fr + 1)) + 1 by omega, hillsR, if_neg (by omega), hr]
  simp only
  rw [hillsR_fuel hd (n - (fr + 1)) (p + 1) (by omega) (n - (p + 1)) (by omega)]
theorem hillsR_end {Z W : Nat → Int} {n : Nat} {least dip : Int} {fr : Nat} (h : n ≤ fr) : hillsR Z W n least dip (n - fr) fr = [] := by
  rw [show n - fr = 0 by omega, hillsR]

set_option maxRecDepth 100000 in
set_option maxHeartbeats 1600000 in
theorem RHills_ok (nm : ByteArray) (sp st : Int) (so : Option Addr) (sc : Nat) (ss : List Smp) (lo : Option Addr) (lc : Nat) (ls : List LapV) (to_ : Option Addr) (tc : Nat) (ts : List ByteArray) (least dip : Int) (l0 : 1 ≤ least) (l1 : least ≤ 200000) (d0 : 0 ≤ dip) (d1 : dip ≤ 200000) (hl : (ss.length : Int) ≤ 20000) (w : World)
    (HA : Hid (ActAt w ⟨nm, sp, st, so, sc, ss, lo, lc, ls, to_, tc, ts⟩)) (HCE : Hid (chkE ⟨nm, sp, st, so, sc, ss, lo, lc, ls, to_, tc, ts⟩ = 0)) (HP : Hid (∀ x ∈ ss, inPlane x)) (HZ : Hid (∀ k, -100000 ≤ zOf ss k ∧ zOf ss k ≤ 100000)) {L : List HillV} (hr : Hid (hillsL ss least dip = L)) :
    Calls Try.prog 16 #[.agg #[.string nm, .int .i64 sp, .int .i64 st, .slice so ss.length sc, .slice lo ls.length lc, .slice to_ ts.length tc], .int .i64 least, .int .i64 dip] w fun x w' => (∃ v, x = .returned (.tuple #[v, .int .i64 0]) ∧ w'.ownsRow w.heap.size 33 4 v L.length (hillsVs L)) ∧ w.grownBy w' none := by
  obtain ⟨i0, hi, hz0, hz1, hz2⟩ := info_parts info_hill
  have HI := Lib.hid hi; have HZ0 := Lib.hid hz0; have HZ1 := Lib.hid hz1; have HZ2 := Lib.hid hz2
  clear hi hz0 hz1 hz2
  go_enter Try.func16, Try.ntmps16
  go_wp2_with fail
  refine (rcheck_any ⟨nm, sp, st, so, sc, ss, lo, lc, ls, to_, tc, ts⟩ _ (HA.out.grown (World.grownBy_alloc _ _ _)) HCE).mono ?_; rintro e w1 ⟨rfl, hg1⟩
  have G1 : w.grownBy w1 none := grown_trans (World.grownBy_alloc w (.cells #[.string nm, .int .i64 sp, .int .i64 st, .slice so ss.length sc, .slice lo ls.length lc, .slice to_ ts.length tc] 26) none) hg1
  have b0 : w1.cell? ⟨w.heap.size, 0, none⟩ = some (.string nm) := grown_cell hg1 (by go_simp)
  have b1 : w1.cell? ⟨w.heap.size, 1, none⟩ = some (.int .i64 sp) := grown_cell hg1 (by go_simp)
  have b2 : w1.cell? ⟨w.heap.size, 2, none⟩ = some (.int .i64 st) := grown_cell hg1 (by go_simp)
  have b3 : w1.cell? ⟨w.heap.size, 3, none⟩ = some (.slice so ss.length sc) := grown_cell hg1 (by go_simp)
  have b4 : w1.cell? ⟨w.heap.size, 4, none⟩ = some (.slice lo ls.length lc) := grown_cell hg1 (by go_simp)
  have b5 : w1.cell? ⟨w.heap.size, 5, none⟩ = some (.slice to_ ts.length tc) := grown_cell hg1 (by go_simp)
  clear hg1
  go_wp2_with fail
  refine (rout_no _ _ _ l0 l1 _).mono ?_; rintro e w2 ⟨rfl, rfl⟩
  go_wp2_with fail
  refine (rout_no _ _ _ d0 d1 _).mono ?_; rintro e w2 ⟨rfl, rfl⟩
  go_wp2_with fail
  refine (rwaysL_any nm sp st so sc ss lo lc ls to_ tc ts hl w1 (HA.out.grown G1).hs HP.out).mono ?_; rintro e w2 ⟨⟨wv, rfl, hR⟩, hg2⟩
  have G2 := Lib.hid (grown_trans G1 hg2)
  have b32 : w2.cell? ⟨w.heap.size, 3, none⟩ = some (.slice so ss.length sc) := grown_cell hg2 b3
  have HB3 := Lib.hid b32
  obtain ⟨ro, rc, rfl, hI⟩ := own_ints hR
  have HR := Lib.hid hI
  have HRL := Lib.hid hI
  have HS2 := Lib.hid ((HA.out.grown G2.out).hs)
  have HR0 : Hid ([] ++ hillsR (zOf ss) (wayN ss) ss.length least dip (ss.length - 0) 0 = L) := by
    show _ = _
    rw [List.nil_append, ← hills_same d0 _ _ (Nat.le_refl _)]; exact hr.out
  clear b0 b1 b2 b3 b4 b5 b32 hR hI hg2 G1 hr
  go_wp2_with fail
  go_loopw [9, 11] (fun lv fv wr => ∃ (fr : Nat) (M : List HillV) (v : Value), v = lv ∧ fv = .int .i64 fr ∧ fr ≤ ss.length ∧ Hid (M.length ≤ fr) ∧ Hid (wr.ownsRow w2.heap.size 33 4 v M.length (hillsVs M)) ∧ Hid (w2.grownBy wr none) ∧ Hid (M ++ hillsR (zOf ss) (wayN ss) ss.length least dip (ss.length - fr) fr = L))
    (fun _ fv _ => ss.length - (intOf fv).toNat)
  case atStart => exact ⟨0, [], _, rfl, rfl, Nat.zero_le _, by show _ ≤ _; simp, World.ownsRow_nil _ _ _ _, grown_refl _ _, HR0.out⟩
  case round =>
    obtain ⟨fr, M, v, rfl, rfl, hfr, hml, hown, hg, hw⟩ := hrel
    have b3 := grown_cell hg.out HB3.out
    by_cases hlt : fr < ss.length
    · have HSR := Lib.hid (HS2.out.grown hg.out)
      obtain ⟨b, off, rfl⟩ : ∃ b off, so = some ⟨b, off, none⟩ := by
        have hne : ss ≠ [] := fun h => by rw [h] at hlt; simp at hlt
        cases so with
        | none => exact absurd (HS2.out.nil rfl) hne
        | some p =>
          obtain ⟨b, off, spot⟩ := p
          have hsp := HS2.out.spot _ rfl hne
          simp only at hsp
          subst hsp
          exact ⟨b, off, rfl⟩
      obtain ⟨rg, rfl, _⟩ := HR.out fr hlt
      rcases hpe : asc (zOf ss) ss.length dip fr with ⟨p, e⟩
      obtain ⟨f1, f2, f3⟩ := asc_fwd (Z := zOf ss) d0 hlt
      rw [hpe] at f1 f2 f3
      simp only at f1 f2 f3
      have HPE := Lib.hid hpe
      have hw2 := hw.out
      rw [hillsR_at d0 hlt hpe] at hw2
      have hpl : p < ss.length := by omega
      have bp := HZ.out p
      have bf := HZ.out fr
      have wp := wayN_bd HP.out p
      have wf := wayN_bd HP.out fr
      have hhv : hillV (zOf ss) (wayN ss) fr p = ⟨fr, p, zOf ss p - zOf ss fr, wayN ss p - wayN ss fr⟩ := rfl
      rw [hhv] at hw2
      have HW2 := Lib.hid hw2
      clear hpe hw hw2 hhv
      go_wp2_with fail
      refine (reach_any b off sc ss hl fr hlt dip d0 d1 _ HSR.out HZ HPE).mono ?_; rintro x w3 ⟨rfl, hg3⟩
      have cp := z_cell (HSR.out.grown hg3) hpl
      have cf := z_cell (HSR.out.grown hg3) hlt
      have hIW := HR.out.grown (grown_trans hg.out hg3)
      obtain ⟨g1, e1, yp⟩ := hIW p hpl
      obtain ⟨g2, e2, yf⟩ := hIW fr hlt
      obtain rfl : rg = g1 := by injection e1 with e1; injection e1
      obtain rfl : rg = g2 := by injection e2 with e2; injection e2
      have b33 := grown_cell hg3 b3
      have HG3 := Lib.hid (grown_trans hg.out hg3)
      have OWN3 : Hid (w3.ownsRow w2.heap.size 33 4 v M.length (hillsVs M)) := hown.out.kept hg3 (by cases v.ownBlock <;> simp)
      clear e1 e2 hIW b3 hg3
      generalize zOf ss p = zp at *
      generalize zOf ss fr = zf at *
      generalize wayN ss p = ap at *
      generalize wayN ss fr = af at *
      have rz : IntKind.i64.wrap (zp - zf) = zp - zf := IntWalk.i64_in _ (by omega)
      have ra : IntKind.i64.wrap (ap - af) = ap - af := IntWalk.i64_in _ (by omega)
      by_cases hlow : zp - zf < least
      · have HW3 : Hid (M ++ hillsR (zOf ss) (wayN ss) ss.length least dip (ss.length - (fr + 1)) (fr + 1) = L) := by
          have q := HW2.out; rw [if_pos hlow] at q; exact q
        have hml2 : Hid (M.length ≤ fr + 1) := by show _ ≤ _; have := hml.out; omega
        clear HW2 hml
        go_wp2_with fail
        go_quiet (fail)
        go_wp2_with fail
        go_roundw
        case rel => exact ⟨fr + 1, M, _, rfl, by go_num, by omega, hml2.out, OWN3.out, grown_trans HG3.out (grown_drewN _ _ _), HW3.out⟩
        case measure => simp [intOf]; omega
      · have HW3 : Hid ((M ++ [⟨fr, p, zp - zf, ap - af⟩]) ++ hillsR (zOf ss) (wayN ss) ss.length least dip (ss.length - (p + 1)) (p + 1) = L) := by
          have q := HW2.out; rw [if_neg hlow] at q
          show _ = _; rw [List.append_assoc]; exact q
        have hml2 : Hid (M.length ≤ 20000) := by show _ ≤ _; have := hml.out; omega
        have hml3 : Hid ((M ++ [(⟨fr, p, zp - zf, ap - af⟩ : HillV)]).length ≤ p + 1) := by show _ ≤ _; have := hml.out; simp; omega
        clear HW2 hml
        go_wp2_with fail
        go_quiet (fail)
        go_wp2_with fail
        obtain ⟨W, hWq⟩ : ∃ W, W = w3.drewN nq := ⟨_, rfl⟩
        have xp : W.cell? ⟨rg, p, none⟩ = some (.int .i64 ap) := by rw [hWq]; exact yp
        have xf : W.cell? ⟨rg, fr, none⟩ = some (.int .i64 af) := by rw [hWq]; exact yf
        have HGW : Hid (w2.grownBy W none) := by rw [hWq]; exact grown_trans HG3.out (grown_drewN _ _ _)
        have HOWN : Hid (W.ownsRow w2.heap.size 33 4 v M.length (hillsVs M)) := by rw [hWq]; exact OWN3.out
        rw [← hWq]
        clear hWq b33 cp cf yp yf
        have hrl : rg < w2.heap.size := by have := HRL.out fr hlt; obtain ⟨_, e3, h3⟩ := this; injection e3 with e3; injection e3 with e3 _ _; subst e3; exact lt_of_cell h3
        have hsz2 := HGW.out.size
        have own_ne : v.ownBlock ≠ some rg := fun h => by have := (HOWN.out.lt rg h).1; omega
        have hi := HI.out; have hz0 := HZ0.out; have hz1 := HZ1.out; have hz2 := HZ2.out
        have fr0 : (0 : Int) ≤ (fr : Int) := by omega
        have fr1 : (fr : Int) < (ss.length : Int) := by omega
        have p0 : (0 : Int) ≤ (p : Int) := by omega
        have p1 : (p : Int) < (ss.length : Int) := by omega
        have lR : rg < W.heap.size := by omega
        have hm20 := hml2.out
        go_region_held3 (fun V => V.cell? ⟨rg, p, none⟩ = some (.int .i64 ap) ∧ V.cell? ⟨rg, fr, none⟩ = some (.int .i64 af))
          (first
            | go_keep
            | (go_split_ands
               refine ⟨?_, ?_⟩
               · (rw [hgrow.cell_far _ (by simp; omega) (Ne.symm own_ne)]; assumption)
               · (rw [hgrow.cell_far _ (by simp; omega) (Ne.symm own_ne)]; assumption)))
          ((refine step_append_lies _ (by rfl) _ _ _ (by rfl) w2.heap.size 33 i0 _ 4 32 Try.underlying27 hi hz0 hz1 hz2 rfl (by omega) v M.length (hillsVs M) (by rfl) ((HOWN.out.alloc _).drew)
              ⟨W.heap.size, 0, none⟩ 1 1 [.int .i64 fr, .int .i64 p, .int .i64 (zp - zf), .int .i64 (ap - af)] (by rfl) (by rfl) (World.news_of_block (cs := #[.int .i64 fr, .int .i64 p, .int .i64 (zp - zf), .int .i64 (ap - af)]) (t := 33) (fr := (0, 0)) (heap_alloc_new W _)) (by simp [Value.oneCell'])
              (by omega) (by unfold maxLen; omega) (by omega) (by simp; omega) (W.heap.size + 1) (by simp) ?_; intro gg cap w4 hown1 hgrow hat hlt4))
        have HOW4 : Hid (w4.ownsRow w2.heap.size 33 4 (.slice (some ⟨gg, 0, none⟩) (M.length + 1) cap) (M ++ [(⟨fr, p, zp - zf, ap - af⟩ : HillV)]).length (hillsVs (M ++ [⟨fr, p, zp - zf, ap - af⟩]))) := by
          show World.ownsRow _ _ _ _ _ _ _; rw [hillsVs_snoc, List.length_append]; exact hown1
        have HG4 : Hid (w2.grownBy w4 none) := grown_own (w := w2) (wr := W) HGW.out (g := ⟨hgrow.os, hgrow.tape, hgrow.output, hgrow.size, hgrow.block⟩) (fun k hk => (HOWN.out.lt k hk).1)
        clear hown1 hgrow hat hlt4 hi hz0 hz1 hz2 xp xf own_ne hrl lR
        go_wp2_with fail
        go_roundw
        case rel => exact ⟨p + 1, M ++ [HillV.mk fr p (zp - zf) (ap - af)], _, rfl, by go_num, by omega, hml3.out, HOW4.out, HG4.out, HW3.out⟩
        case measure => simp [intOf]; omega
    · have hf := hw.out
      rw [hillsR_end (by omega), List.append_nil] at hf
      subst hf
      have HOW : Hid (wr.ownsRow w.heap.size 33 4 v M.length (hillsVs M)) := own_low hown.out G2.out.size
      go_wp2_with fail
      go_ret2
      exact ⟨⟨_, rfl, HOW.out⟩, grown_trans G2.out hg.out⟩

end Go.Proofs.Ytimfgplihppeeaa
