/- The contract of predict. -/
import Derived.Test.YtdihmcbjoociiaaFPred
import Derived.Test.YtdihmcbjoociiaaEChk
import Derived.Deep.RegionHeld3
import Derived.Deep.CutBlock
import Derived.Deep.DeepCutAuto
namespace Go.Proofs.Ytdihmcbjoociiaa
open Go.RowKit

/-- A race in a block of its own. -/
structure Box2 (w : World) (B : Nat) (a b : Int) : Prop where
  h : w.heap[B]? = some (.cells #[.int .i64 a, .int .i64 b] 118 (0, 0))
section
variable {w : World} {B : Nat} {a b : Int}
theorem Box2.c0 (r : Box2 w B a b) : w.cell? ⟨B, 0, none⟩ = some (.int .i64 a) := by simp [World.cell?, r.h]
theorem Box2.c1 (r : Box2 w B a b) : w.cell? ⟨B, 1, none⟩ = some (.int .i64 b) := by simp [World.cell?, r.h]
theorem Box2.f (r : Box2 w B a b) (i : Nat) : w.frozen? ⟨B, i, none⟩ = false := by simp [World.frozen?, r.h]
theorem Box2.lt (r : Box2 w B a b) : B < w.heap.size := (Array.getElem?_eq_some_iff.1 r.h).1
theorem Box2.grown (r : Box2 w B a b) {w' : World} (hg : w.grownBy w' none) : Box2 w' B a b := ⟨(hg.block B r.lt (by simp)).trans r.h⟩
theorem Box2.set (r : Box2 w B a b) (x y : Int) : Box2 ((w.setCell ⟨B, 0, none⟩ (.int .i64 x)).setCell ⟨B, 1, none⟩ (.int .i64 y)) B x y := by
  constructor
  simp [World.setCell, Array.getElem?_modify, r.h]
theorem Box2.far (r : Box2 w B a b) {B' : Nat} (ne : B ≠ B') (i : Nat) (v : Value) : Box2 (w.setCell ⟨B', i, none⟩ v) B a b := by
  constructor
  show (w.setCell ⟨B', i, none⟩ v).heap[B]? = _
  rw [Below.heap_setCell _ _ _ _ ne]; exact r.h
theorem Box2.new (w : World) (a b : Int) : Box2 (w.alloc (.cells #[.int .i64 a, .int .i64 b] 118)) w.heap.size a b := ⟨heap_alloc_new w _⟩
end
theorem sTop_14 : sTop 14 ≤ 300000000000 := by decide
theorem dbl_sec2 {k : Nat} {a : RaceV} {s : Int} (h : Dbl k a) (hs : 0 ≤ s ∧ s ≤ 200) (hw : a.way ≤ 10000000) : (dblR a s).sec ≤ 300000000000 := by
  have h1 := dbl_few h hw
  have h2 := (dbl_next h hs).s1
  have h3 := sTop_le (show k + 1 ≤ 14 by omega)
  have h4 := sTop_14
  omega
theorem back_bd {l : List RaceV} (h : RacesOk l) : ∀ k, k ≤ l.length → 0 ≤ (backR l k).way ∧ (backR l k).way ≤ 10000000 ∧ 0 ≤ (backR l k).sec ∧ (backR l k).sec ≤ 1000000
  | 0, _ => by show (0 : Int) ≤ 0 ∧ (0 : Int) ≤ 10000000 ∧ (0 : Int) ≤ 0 ∧ (0 : Int) ≤ 1000000; decide
  | k + 1, hk => by
    have := (up_one h.up (show k < l.length by omega)).1
    unfold RaceV.Ok at this
    show 0 ≤ (raceD l k).way ∧ (raceD l k).way ≤ 10000000 ∧ 0 ≤ (raceD l k).sec ∧ (raceD l k).sec ≤ 1000000
    omega

def msr (B : Nat) (w : World) : Nat := match w.cell? ⟨B, 0, none⟩ with
  | some (.int _ x) => (30000000 - x).toNat
  | _ => 0
theorem msr_is {w : World} {B : Nat} {a b : Int} (r : Box2 w B a b) : msr B w = (30000000 - a).toNat := by
  unfold msr; rw [r.c0]

set_option maxRecDepth 100000 in
set_option maxHeartbeats 3200000 in
theorem predict_is (ao : Option Addr) (cap : Nat) (l : List RaceV) (hok : Hid (RacesOk l)) (way s : Int) (hw : Hid (1 ≤ way ∧ way ≤ 10000000)) (hsl : Hid (0 ≤ s ∧ s ≤ 200)) (w : World) (hs : PairsAt w ao l) {v : Int} (hv : Hid (predR s way ⟨0, 0⟩ l = v)) :
    Calls Try.prog 103 #[.slice ao l.length cap, .int .i64 way, .int .i64 s] w fun e w' => e = .returned (.int .i64 v) ∧ w.grownBy w' none := by
  have HS := Lib.hid hs
  have hl50 := hok.out.len
  have hlp : 0 < l.length := List.length_pos_iff.2 hok.out.ne
  have HLP := Lib.hid hlp
  clear hs hlp
  obtain ⟨wlo, whi⟩ := hw.out
  obtain ⟨slo, shi⟩ := hsl.out
  go_enter Try.func103, Try.ntmps103
  go_wp2_with fail
  have HB0 : Hid (Box2 (w.alloc (.cells #[.int .i64 0, .int .i64 0] 118)) w.heap.size (backR l 0).way (backR l 0).sec) := Box2.new w 0 0
  have HG0 : Hid (w.grownBy (w.alloc (.cells #[.int .i64 0, .int .i64 0] 118)) none) := World.grownBy_alloc _ _ _
  have HP0 : Hid (predR s way (backR l 0) (l.drop 0) = v) := hv.out
  have HW0 : Hid ((backR l 0).way ≤ way) := by show (0 : Int) ≤ way; omega
  go_loopw [13] (fun iv wr => ∃ k : Nat, k ≤ l.length ∧ iv = .int .i64 k ∧ Hid (w.grownBy wr none) ∧ Hid (Box2 wr w.heap.size (backR l k).way (backR l k).sec) ∧ Hid (predR s way (backR l k) (l.drop k) = v) ∧ Hid ((backR l k).way ≤ way))
    (fun iv _ => l.length - (intOf iv).toNat)
  case atStart => exact ⟨0, Nat.zero_le _, rfl, HG0.out, HB0.out, HP0.out, HW0.out⟩
  case round =>
    obtain ⟨k, hk, rfl, hg, hb, hp, hbw⟩ := hrel
    by_cases hlt : k < l.length
    · obtain ⟨b, off, rfl, hc⟩ := HS.out.at (by omega)
      have c0 := grown_cell hg.out (hc k hlt).1
      have c1 := grown_cell hg.out (hc k hlt).2
      have hx := up_one hok.out.up hlt
      have hbb := back_bd hok.out k hk
      have hpk := (predR_at (s := s) (way := way) (a := backR l k) hlt).symm.trans hp.out
      have HN : Hid (backR l (k + 1) = raceD l k) := rfl
      have b0 := hb.out.c0; have b1 := hb.out.c1
      clear hc
      by_cases a1 : way < (raceD l k).way
      · rw [if_pos a1] at hpk
        obtain ⟨⟨⟨x0, x1⟩, x2, x3⟩, x4, x5⟩ := hx
        obtain ⟨y0, y1, y2, y3⟩ := hbb
        obtain ⟨t, ht⟩ : ∃ t, btwR (backR l k) (raceD l k) way = t := ⟨_, rfl⟩
        have HT := Lib.hid ht
        rw [ht] at hpk
        have HBW := hbw.out
        have d0 := grown_cell (World.grownBy_alloc wr (.cells #[.int .i64 (raceD l k).way, .int .i64 (raceD l k).sec] 118) none) b0
        have d1 := grown_cell (World.grownBy_alloc wr (.cells #[.int .i64 (raceD l k).way, .int .i64 (raceD l k).sec] 118) none) b1
        have HPK := Lib.hid hpk
        clear hp ht hpk hbw HN hb b0 b1
        generalize raceD l k = x at *
        generalize backR l k = y at *
        obtain ⟨xw, xs⟩ := x
        obtain ⟨yw, ys⟩ := y
        simp only at x0 x1 x2 x3 x4 x5 y0 y1 y2 y3 a1 HBW c0 c1 d0 d1
        have HG2 : Hid (w.grownBy (wr.alloc (.cells #[.int .i64 xw, .int .i64 xs] 118)) none) := grown_trans hg.out (World.grownBy_alloc _ _ _)
        go_wp2_with (go_at_call 131; refine (between_is ⟨yw, ys⟩ ⟨xw, xs⟩ way y0 x4 (by show xw ≤ 30000000; omega) y2 (by show ys ≤ xs; omega) (by show xs ≤ 300000000000; omega) HBW whi _ HT).mono ?_; rintro e w1 ⟨rfl, hg1⟩)
        all_goals
          go_ret
          exact ⟨ret_int (by have := HPK.out; omega), grown_trans HG2.out (by assumption)⟩
      · rw [if_neg a1] at hpk
        have HP2 : Hid (predR s way (backR l (k + 1)) (l.drop (k + 1)) = v) := hpk
        have HW2 : Hid ((backR l (k + 1)).way ≤ way) := by show (raceD l k).way ≤ way; omega
        have HB2 : Hid (Box2 (((wr.setCell ⟨w.heap.size, 0, none⟩ (.int .i64 (raceD l k).way)).setCell ⟨w.heap.size, 1, none⟩ (.int .i64 (raceD l k).sec)).alloc (.cells #[.int .i64 (raceD l k).way, .int .i64 (raceD l k).sec] 118)) w.heap.size (raceD l k).way (raceD l k).sec) := (hb.out.set (raceD l k).way (raceD l k).sec).grown (World.grownBy_alloc _ _ _)
        have HG3 : Hid (w.grownBy (((wr.setCell ⟨w.heap.size, 0, none⟩ (.int .i64 (raceD l k).way)).setCell ⟨w.heap.size, 1, none⟩ (.int .i64 (raceD l k).sec)).alloc (.cells #[.int .i64 (raceD l k).way, .int .i64 (raceD l k).sec] 118)) none) := grown_trans (egrown_set (egrown_set hg.out (Nat.le_refl _) 0 (.int .i64 (raceD l k).way)) (Nat.le_refl _) 1 (.int .i64 (raceD l k).sec)) (World.grownBy_alloc _ _ _)
        have f0 := hb.out.f 0; have f1 := hb.out.f 1
        have ne := hb.out.lt
        have HBX : Hid (backR l (k + 1) = raceD l k) := rfl
        clear hp hpk hbw HN hb hx hbb
        generalize hxx : raceD l k = x at *
        generalize backR l k = y at *
        obtain ⟨xw, xs⟩ := x
        obtain ⟨yw, ys⟩ := y
        simp only at a1 c0 c1 b0 b1 f0 f1
        have HXX := Lib.hid hxx
        clear hxx
        go_wp2_with fail
        go_roundw
        case rel => exact ⟨k + 1, by omega, by go_num, HG3.out, (by show Box2 _ _ _ _; rw [HBX.out]; exact HB2.out), HP2.out, HW2.out⟩
        case measure => simp [intOf]; omega
    · obtain rfl : k = l.length := by omega
      have hlast : (backR l l.length).Ok := by
        obtain ⟨m, hm⟩ : ∃ m, l.length = m + 1 := ⟨l.length - 1, by have := HLP.out; omega⟩
        rw [hm]
        exact (up_one hok.out.up (show m < l.length by omega)).1
      have HD0 : Hid (Dbl 0 (backR l l.length)) := ok_dbl hlast
      have HT0 : Hid (tailR s way 24 (backR l l.length) = v) := (predR_end (Nat.le_refl _)).symm.trans hp.out
      have HBW := hbw
      have b0 := hb.out.c0; have b1 := hb.out.c1
      obtain ⟨⟨y0, y1⟩, y2, y3⟩ := hlast
      have HUW : Hid ((dblR (backR l l.length) s).way = (dblR (backR l l.length) s).way) := rfl
      have HUS : Hid ((dblR (backR l l.length) s).sec = (dblR (backR l l.length) s).sec) := rfl
      have HB1 := hb
      clear hp hbw hb
      generalize backR l l.length = y at *
      obtain ⟨yw, ys⟩ := y
      simp only at y0 y1 y2 y3 b0 b1
      go_wp2_with (go_at_call 132; refine (doubled_is ⟨yw, ys⟩ s (by show 0 ≤ yw; omega) (by show yw ≤ 30000000; omega) (by show 0 ≤ ys; omega) (by show ys ≤ 300000000000; omega) slo shi _ HUW HUS).mono ?_; rintro e w1 ⟨rfl, hg1⟩)
      have HX0 : Hid (Box2 (w1.alloc (.cells #[.int .i64 (dblR ⟨yw, ys⟩ s).way, .int .i64 (dblR ⟨yw, ys⟩ s).sec] 118)) w1.heap.size (dblR ⟨yw, ys⟩ s).way (dblR ⟨yw, ys⟩ s).sec) := Box2.new w1 _ _
      have HY0 : Hid (Box2 (w1.alloc (.cells #[.int .i64 (dblR ⟨yw, ys⟩ s).way, .int .i64 (dblR ⟨yw, ys⟩ s).sec] 118)) w.heap.size yw ys) := (HB1.out.grown hg1).grown (World.grownBy_alloc _ _ _)
      have HGA : Hid (w.grownBy (w1.alloc (.cells #[.int .i64 (dblR ⟨yw, ys⟩ s).way, .int .i64 (dblR ⟨yw, ys⟩ s).sec] 118)) none) := grown_trans (grown_trans hg.out hg1) (World.grownBy_alloc _ _ _)
      have HXn : Hid (w.heap.size ≤ w1.heap.size) := Nat.le_trans hg.out.size hg1.size
      have HNE : Hid (w.heap.size ≠ w1.heap.size) := fun e => by
        have q := (HB1.out.grown hg1).lt
        omega
      have HBn : w.heap.size ≤ w.heap.size := Nat.le_refl _
      clear hg1 hg HB1 b0 b1 HUW HUS HLP
      go_loopw [] (fun wr => ∃ (n k : Nat) (a : RaceV), Hid (w.grownBy wr none) ∧ Hid (Box2 wr w.heap.size a.way a.sec) ∧ Hid (Box2 wr w1.heap.size (dblR a s).way (dblR a s).sec) ∧ Hid (Dbl k a) ∧ Hid (a.way ≤ way) ∧ Hid (tailR s way n a = v) ∧ 14 ≤ n + k)
        (fun wr => msr w.heap.size wr)
      case atStart => exact ⟨24, 0, ⟨yw, ys⟩, HGA.out, HY0.out, HX0.out, HD0.out, HBW.out, HT0.out, by omega⟩
      case round =>
        obtain ⟨n, k, a, hg, hy, hx, hd, haw, ht, hnk⟩ := hrel
        obtain ⟨aw, az⟩ := a
        have hk13 := dbl_few hd.out (Int.le_trans haw.out whi)
        obtain ⟨n, rfl⟩ : ∃ m, n = m + 1 := ⟨n - 1, by omega⟩
        have htt := ht.out
        unfold tailR at htt
        have hpos := dbl_pos hd.out
        have hs0 := hd.out.s0
        have hup := dbl_up hd.out slo
        have hsec := dbl_sec2 hd.out ⟨slo, shi⟩ (Int.le_trans haw.out whi)
        have hway : (dblR ⟨aw, az⟩ s).way = 2 * aw := rfl
        have haww := haw.out
        have hdn := dbl_next hd.out ⟨slo, shi⟩
        obtain ⟨d, hdd⟩ : ∃ d, dblR ⟨aw, az⟩ s = d := ⟨_, rfl⟩
        rw [hdd] at htt hup hsec hway hx hdn
        obtain ⟨dw, dz⟩ := d
        simp only at hpos hs0 haww hup hsec hway
        have hdb : 0 ≤ dw ∧ dw ≤ 20000000 := by omega
        clear hway
        have HY := Lib.hid hy.out; have HX := Lib.hid hx.out; have HG := Lib.hid hg.out
        clear hd haw hy hx hg hdd ht
        by_cases hlt : dw ≤ way
        · rw [if_pos hlt] at htt
          have HTN := Lib.hid htt
          have HDN := Lib.hid hdn
          have HDW : Hid ((⟨dw, dz⟩ : RaceV).way ≤ way) := hlt
          obtain ⟨u2, hu2⟩ : ∃ u, (dblR ⟨dw, dz⟩ s).way = u := ⟨_, rfl⟩
          obtain ⟨v2, hv2⟩ : ∃ u, (dblR ⟨dw, dz⟩ s).sec = u := ⟨_, rfl⟩
          have HU2 := Lib.hid hu2; have HV2 := Lib.hid hv2
          have HC : Hid (∀ W : World, Calls Try.prog 132 #[.agg #[.int .i64 dw, .int .i64 dz], .int .i64 s] W fun e w' => e = .returned (.agg #[.int .i64 u2, .int .i64 v2]) ∧ W.grownBy w' none) := fun W => doubled_is ⟨dw, dz⟩ s (by show 0 ≤ dw; omega) (by show dw ≤ 30000000; omega) (by show 0 ≤ dz; omega) hsec slo shi W HU2 HV2
          have HMS : Hid (msr w.heap.size wr = (30000000 - aw).toNat) := msr_is HY.out
          have HGD : Hid (w.grownBy wr.drew none) := grown_trans HG.out (grown_drewN _ _ 1)
          have HYD : Hid (Box2 wr.drew w.heap.size aw az) := HY.out.grown (grown_drewN _ _ 1)
          have HXD : Hid (Box2 wr.drew w1.heap.size dw dz) := HX.out.grown (grown_drewN _ _ 1)
          have x0 := HX.out.c0; have x1 := HX.out.c1
          clear hu2 hv2 htt hdn
          go_wp2_with fail
          clear x0 x1
          have x0 := HXD.out.c0; have x1 := HXD.out.c1
          refine wp_region_noPanic ?_
          refine wp_region_held_drew (S := fun W => World.grownBy w W none) (by kernel_rfl) HGD.out (fun hHeld => ?_)
          refine wpAnyH_take (i := 2) (v := .int .i64 s) rfl (by kernel_rfl) (by kernel_rfl) (by kernel_rfl) (fun _ _ _ h => h) (Or.inl ⟨by rfl, fun V hV => ?_⟩) hHeld ?_
          · clear hV
            go_simp
          try simp only [Go.Act.put, List.setIfInBounds_toArray, List.set_cons_zero, List.set_cons_succ]
          clear hHeld
          refine wpAnyH_ready (rs := [0, 1]) (by kernel_rfl) (by simp) ?_
          refine AllReadyH.cons rfl (fun K hK => ?_) (AllReadyH.cons rfl (fun K hK => ?_) AllReadyH.nil)
          · skip
            go_simp
            refine hK.out _ _ HGD.out (fun _ => ?_)
            clear hK K
            try simp only [Go.Act.put, List.setIfInBounds_toArray, List.set_cons_zero, List.set_cons_succ]
            refine wpAnyH_ready (rs := [1]) (by kernel_rfl) (by simp) ?_
            refine AllReadyH.cons rfl (fun K hK => ?_) AllReadyH.nil
            go_simp
            refine hK.out _ _ HGD.out (fun _ => ?_)
            clear hK K
            try simp only [Go.Act.put, List.setIfInBounds_toArray, List.set_cons_zero, List.set_cons_succ]
            refine wpAnyH_ready (rs := [3]) (by kernel_rfl) (by simp) ?_
            refine AllReadyH.cons rfl (fun K hK => ?_) AllReadyH.nil
            go_simp
            refine (HC.out _).mono ?_
            rintro e w7 ⟨rfl, hg7⟩
            have HGW : Hid (w.grownBy w7 none) := grown_trans HGD.out hg7
            have HYW : Hid (Box2 w7 w.heap.size aw az) := HYD.out.grown hg7
            have HXW : Hid (Box2 w7 w1.heap.size dw dz) := HXD.out.grown hg7
            have k0 := HYW.out.c0; have k1 := HYW.out.c1; have k2 := HYW.out.f 0; have k3 := HYW.out.f 1
            have l0 := HXW.out.c0; have l1 := HXW.out.c1; have l2 := HXW.out.f 0; have l3 := HXW.out.f 1
            have ne1 := HNE.out; have ne2 := HNE.out.symm
            refine hK.out _ _ HGW.out (fun _ => ?_)
            clear hK K hg7
            try simp only [Go.Act.put, List.setIfInBounds_toArray, List.set_cons_zero, List.set_cons_succ]
            refine wpAnyH_ready (rs := [4]) (by kernel_rfl) (by simp) ?_
            refine AllReadyH.cons rfl (fun K hK => ?_) AllReadyH.nil
            go_simp
            refine hK.out _ _ (egrown_set (egrown_set HGW.out HBn _ _) HBn _ _) (fun _ => ?_)
            clear hK K
            try simp only [Go.Act.put, List.setIfInBounds_toArray, List.set_cons_zero, List.set_cons_succ]
            refine wpAnyH_ready (rs := [5]) (by kernel_rfl) (by simp) ?_
            refine AllReadyH.cons rfl (fun K hK => ?_) AllReadyH.nil
            go_simp
            refine hK.out _ _ (egrown_set (egrown_set (egrown_set (egrown_set HGW.out HBn _ _) HBn _ _) HXn.out _ _) HXn.out _ _) (fun _ => ?_)
            clear hK K
            refine wpAnyH_done (by kernel_rfl) ?_ _
            refine NoPanic.normal ?_
            go_wp2_with fail
            go_roundw
            case rel => exact ⟨n, k + 1, ⟨dw, dz⟩, egrown_set (egrown_set (egrown_set (egrown_set HGW.out HBn _ _) HBn _ _) HXn.out _ _) HXn.out _ _, ((HYW.out.set dw dz).far HNE.out 0 _).far HNE.out 1 _, (by show Box2 _ _ _ _; rw [HU2.out, HV2.out]; exact ((HXW.out.far HNE.out.symm 0 _).far HNE.out.symm 1 _).set u2 v2), HDN.out, HDW.out, HTN.out, by omega⟩
            case measure =>
              rw [msr_is (((HYW.out.set dw dz).far HNE.out 0 _).far HNE.out 1 _), HMS.out]; omega
          · skip
            go_simp
            refine hK.out _ _ HGD.out (fun _ => ?_)
            clear hK K
            try simp only [Go.Act.put, List.setIfInBounds_toArray, List.set_cons_zero, List.set_cons_succ]
            refine wpAnyH_ready (rs := [0, 3]) (by kernel_rfl) (by simp) ?_
            refine AllReadyH.cons rfl (fun K hK => ?_) (AllReadyH.cons rfl (fun K hK => ?_) AllReadyH.nil)
            · skip
              go_simp
              refine hK.out _ _ HGD.out (fun _ => ?_)
              clear hK K
              try simp only [Go.Act.put, List.setIfInBounds_toArray, List.set_cons_zero, List.set_cons_succ]
              refine wpAnyH_ready (rs := [3]) (by kernel_rfl) (by simp) ?_
              refine AllReadyH.cons rfl (fun K hK => ?_) AllReadyH.nil
              go_simp
              refine (HC.out _).mono ?_
              rintro e w7 ⟨rfl, hg7⟩
              have HGW : Hid (w.grownBy w7 none) := grown_trans HGD.out hg7
              have HYW : Hid (Box2 w7 w.heap.size aw az) := HYD.out.grown hg7
              have HXW : Hid (Box2 w7 w1.heap.size dw dz) := HXD.out.grown hg7
              have k0 := HYW.out.c0; have k1 := HYW.out.c1; have k2 := HYW.out.f 0; have k3 := HYW.out.f 1
              have l0 := HXW.out.c0; have l1 := HXW.out.c1; have l2 := HXW.out.f 0; have l3 := HXW.out.f 1
              have ne1 := HNE.out; have ne2 := HNE.out.symm
              refine hK.out _ _ HGW.out (fun _ => ?_)
              clear hK K hg7
              try simp only [Go.Act.put, List.setIfInBounds_toArray, List.set_cons_zero, List.set_cons_succ]
              refine wpAnyH_ready (rs := [4]) (by kernel_rfl) (by simp) ?_
              refine AllReadyH.cons rfl (fun K hK => ?_) AllReadyH.nil
              go_simp
              refine hK.out _ _ (egrown_set (egrown_set HGW.out HBn _ _) HBn _ _) (fun _ => ?_)
              clear hK K
              try simp only [Go.Act.put, List.setIfInBounds_toArray, List.set_cons_zero, List.set_cons_succ]
              refine wpAnyH_ready (rs := [5]) (by kernel_rfl) (by simp) ?_
              refine AllReadyH.cons rfl (fun K hK => ?_) AllReadyH.nil
              go_simp
              refine hK.out _ _ (egrown_set (egrown_set (egrown_set (egrown_set HGW.out HBn _ _) HBn _ _) HXn.out _ _) HXn.out _ _) (fun _ => ?_)
              clear hK K
              refine wpAnyH_done (by kernel_rfl) ?_ _
              refine NoPanic.normal ?_
              go_wp2_with fail
              go_roundw
              case rel => exact ⟨n, k + 1, ⟨dw, dz⟩, egrown_set (egrown_set (egrown_set (egrown_set HGW.out HBn _ _) HBn _ _) HXn.out _ _) HXn.out _ _, ((HYW.out.set dw dz).far HNE.out 0 _).far HNE.out 1 _, (by show Box2 _ _ _ _; rw [HU2.out, HV2.out]; exact ((HXW.out.far HNE.out.symm 0 _).far HNE.out.symm 1 _).set u2 v2), HDN.out, HDW.out, HTN.out, by omega⟩
              case measure =>
                rw [msr_is (((HYW.out.set dw dz).far HNE.out 0 _).far HNE.out 1 _), HMS.out]; omega
            · skip
              go_simp
              refine (HC.out _).mono ?_
              rintro e w7 ⟨rfl, hg7⟩
              have HGW : Hid (w.grownBy w7 none) := grown_trans HGD.out hg7
              have HYW : Hid (Box2 w7 w.heap.size aw az) := HYD.out.grown hg7
              have HXW : Hid (Box2 w7 w1.heap.size dw dz) := HXD.out.grown hg7
              have k0 := HYW.out.c0; have k1 := HYW.out.c1; have k2 := HYW.out.f 0; have k3 := HYW.out.f 1
              have l0 := HXW.out.c0; have l1 := HXW.out.c1; have l2 := HXW.out.f 0; have l3 := HXW.out.f 1
              have ne1 := HNE.out; have ne2 := HNE.out.symm
              refine hK.out _ _ HGW.out (fun _ => ?_)
              clear hK K hg7
              try simp only [Go.Act.put, List.setIfInBounds_toArray, List.set_cons_zero, List.set_cons_succ]
              refine wpAnyH_ready (rs := [0]) (by kernel_rfl) (by simp) ?_
              refine AllReadyH.cons rfl (fun K hK => ?_) AllReadyH.nil
              go_simp
              refine hK.out _ _ HGW.out (fun _ => ?_)
              clear hK K
              try simp only [Go.Act.put, List.setIfInBounds_toArray, List.set_cons_zero, List.set_cons_succ]
              refine wpAnyH_ready (rs := [4]) (by kernel_rfl) (by simp) ?_
              refine AllReadyH.cons rfl (fun K hK => ?_) AllReadyH.nil
              go_simp
              refine hK.out _ _ (egrown_set (egrown_set HGW.out HBn _ _) HBn _ _) (fun _ => ?_)
              clear hK K
              try simp only [Go.Act.put, List.setIfInBounds_toArray, List.set_cons_zero, List.set_cons_succ]
              refine wpAnyH_ready (rs := [5]) (by kernel_rfl) (by simp) ?_
              refine AllReadyH.cons rfl (fun K hK => ?_) AllReadyH.nil
              go_simp
              refine hK.out _ _ (egrown_set (egrown_set (egrown_set (egrown_set HGW.out HBn _ _) HBn _ _) HXn.out _ _) HXn.out _ _) (fun _ => ?_)
              clear hK K
              refine wpAnyH_done (by kernel_rfl) ?_ _
              refine NoPanic.normal ?_
              go_wp2_with fail
              go_roundw
              case rel => exact ⟨n, k + 1, ⟨dw, dz⟩, egrown_set (egrown_set (egrown_set (egrown_set HGW.out HBn _ _) HBn _ _) HXn.out _ _) HXn.out _ _, ((HYW.out.set dw dz).far HNE.out 0 _).far HNE.out 1 _, (by show Box2 _ _ _ _; rw [HU2.out, HV2.out]; exact ((HXW.out.far HNE.out.symm 0 _).far HNE.out.symm 1 _).set u2 v2), HDN.out, HDW.out, HTN.out, by omega⟩
              case measure =>
                rw [msr_is (((HYW.out.set dw dz).far HNE.out 0 _).far HNE.out 1 _), HMS.out]; omega
        · rw [if_neg hlt] at htt
          have HTT := Lib.hid htt
          have y0 := HY.out.c0; have y1 := HY.out.c1; have x0 := HX.out.c0; have x1 := HX.out.c1
          clear htt hdn
          go_wp2_with fail
          have hbt := between_is ⟨aw, az⟩ ⟨dw, dz⟩ way (by show 0 ≤ aw; omega) hup.1 (by show dw ≤ 30000000; omega) (by show 0 ≤ az; omega) hup.2 hsec haww whi wr HTT
          refine hbt.mono ?_
          rintro e w8 ⟨rfl, hg8⟩
          go_wp2_with fail
          go_ret
          exact ⟨rfl, grown_trans HG.out hg8⟩

end Go.Proofs.Ytdihmcbjoociiaa
