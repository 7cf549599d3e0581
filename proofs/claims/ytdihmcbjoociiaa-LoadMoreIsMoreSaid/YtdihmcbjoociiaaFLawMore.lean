/- More on one day makes no state less: the walk. -/
import Derived.Test.YtdihmcbjoociiaaFRSeries
import Derived.Test.YtdihmcbjoociiaaFTold
namespace Go.Proofs.Ytdihmcbjoociiaa
open Go.RowKit

theorem nthI_set (l : List Int) (d j : Nat) (v : Int) (hd : d < l.length) : nthI (l.set d v) j = if j = d then v else nthI l j := by
  unfold nthI
  rw [List.getD_eq_getElem?_getD, List.getD_eq_getElem?_getD, List.getElem?_set]
  by_cases h : d = j
  · subst h; simp [hd]
  · rw [if_neg h, if_neg (fun e => h e.symm)]

theorem addr_zero (g j : Nat) : (⟨g, 0, none⟩ : Addr).add j = ⟨g, j, none⟩ := by
  rcases Nat.eq_zero_or_pos j with h0 | h0
  · subst h0; simp [Addr.add]
  · simp [Addr.add, Nat.ne_of_gt h0]

theorem fclone_is (ao : Option Addr) (cap : Nat) (l : List Int) (h5 : (l.length : Int) ≤ 5000) (h0 : 0 < l.length) (w : World) (hs : IntsAt w ao l) :
    Calls Try.prog 35 #[.slice ao l.length cap] w fun e w' => (∃ g c, e = .returned (.slice (some ⟨g, 0, none⟩) l.length c) ∧ w.heap.size ≤ g ∧ IntsAt w' (some ⟨g, 0, none⟩) l ∧ ∀ i, w'.frozen? ⟨g, i, none⟩ = false) ∧ w.grownBy w' none := by
  obtain ⟨b, off, rfl, hc⟩ := hs.at h0
  have hb : l.length * 8 ≤ 140737488355328 := by omega
  refine (Try.slices_Clone_int b off l.length cap l w (Nat.le_refl _) hb (fun j hj => by have := hc j hj; unfold nthI at this; exact this)).mono ?_
  rintro e w' ⟨v, rfl, hown, hne, hbel⟩
  refine ⟨?_, grown_below hbel⟩
  rcases hown.2 with ⟨hv, _⟩ | ⟨g, c, cur, hv, hbg, hg, rest⟩
  · exact absurd hv hne
  · refine ⟨g, c, by rw [hv], hbg, ⟨fun h => (by cases h), fun a ha _ => (by cases ha; rfl), fun a ha i hi => ?_⟩, fun i => by simp [World.frozen?, hg]⟩
    cases ha
    have := hown.cells (g := g) (by rw [hv]; rfl) i (.int .i64 (nthI l i)) (by rw [nthI_at hi]; simp [hi])
    rw [addr_zero] at this
    simpa using this

theorem IntsAt.set_new {w : World} {g : Nat} {l : List Int} (h : IntsAt w (some ⟨g, 0, none⟩) l) {d : Nat} (hd : d < l.length) (v : Int) : IntsAt (w.setCell ⟨g, d, none⟩ (.int .i64 v)) (some ⟨g, 0, none⟩) (l.set d v) := by
  refine ⟨fun h => (by cases h), fun a ha _ => (by cases ha; rfl), fun a ha i hi => ?_⟩
  cases ha
  rw [List.length_set] at hi
  rw [nthI_set l d i v hd]
  simp only [Nat.zero_add]
  have c := h.cells _ rfl d hd
  simp only [Nat.zero_add] at c
  by_cases e : i = d
  · subst e
    rw [if_pos rfl]
    exact World.cell?_setCell_same _ _ _ c
  · rw [if_neg e]
    have c2 := h.cells _ rfl i hi
    simp only [Nat.zero_add] at c2
    have ne : (⟨g, d, none⟩ : Addr) ≠ ⟨g, i, none⟩ := fun q => by injection q with _ q _; exact e q.symm
    simpa [World.cell?_setCell_other, ne] using c2

set_option maxRecDepth 100000 in
set_option maxHeartbeats 1600000 in
theorem more_law (ao : Option Addr) (cap : Nat) (l : List Int) (hl : (l.length : Int) ≤ 9223372036854775807) (c first day more : Int) (w : World) (hs : IntsAt w ao l) (_ : l.length ≤ cap) (dlo : -9223372036854775808 ≤ day) (dhi : day ≤ 9223372036854775807) (mlo : -9223372036854775808 ≤ more) (mhi : more ≤ 9223372036854775807) :
    Calls Try.prog 6 #[.slice ao l.length cap, .int .i64 c, .int .i64 first, .int .i64 day, .int .i64 more] w fun e w' => e = .returned (.bool true) ∧ w.grownBy w' none := by
  obtain ⟨E, hE⟩ : ∃ e, seriesE l c first = e := ⟨_, rfl⟩
  obtain ⟨n, hn⟩ : ∃ n, seriesN l c first = n := ⟨_, rfl⟩
  have HE := Lib.hid hE; have HN := Lib.hid hn; have HS := Lib.hid hs
  have hnl : E = 0 → n = l.length := fun h => by rw [← hn]; exact seriesN_ok (hE.trans h)
  have hokk : E = 0 → SeriesOk l c first := fun h => series_ok (hE.trans h)
  clear hE hn hs
  by_cases h0 : E = 0
  · subst h0
    obtain rfl := hnl rfl
    have hok := hokk rfl
    have h5 := hok.len
    have HOK := Lib.hid hok
    clear hnl hokk hok
    by_cases ha : 0 ≤ day ∧ day < l.length
    · obtain ⟨ha0, ha1⟩ := ha
      obtain ⟨d, rfl⟩ : ∃ d : Nat, day = d := ⟨day.toNat, by omega⟩
      have hd : d < l.length := by omega
      have hx := HOK.out.each d hd
      obtain ⟨b, off, rfl, hc⟩ := HS.out.at (by omega)
      have cx := hc d hd
      clear hc
      obtain ⟨x, hxx⟩ : ∃ x, nthI l d = x := ⟨_, rfl⟩
      rw [hxx] at hx cx
      have HX := Lib.hid hxx
      clear hxx
      by_cases hm : 0 ≤ more ∧ more ≤ 10000 - x
      · obtain ⟨hm0, hm1⟩ := hm
        have HLEN : Hid ((l.set d (x + more)).length = l.length) := List.length_set
        have HOK2 : Hid (SeriesOk (l.set d (x + more)) c first) := by
          refine ⟨by rw [HLEN.out]; exact h5, HOK.out.f0, HOK.out.f1, HOK.out.c0, HOK.out.c1, fun j hj => ?_⟩
          rw [HLEN.out] at hj
          rw [nthI_set l d j _ hd]
          split
          · omega
          · exact HOK.out.each j hj
        have HE2 : Hid (seriesE (l.set d (x + more)) c first = 0) := seriesE_of HOK2.out
        have HN2 : Hid (seriesN (l.set d (x + more)) c first = l.length) := by show _ = _; rw [seriesN_ok HE2.out]; exact HLEN.out
        have HMO : Hid (∀ k, stN l c first (k + 1) ≤ stN (l.set d (x + more)) c first (k + 1)) := fun k => stN_mono HOK.out.c0 _ fun j _ => by
          rw [nthI_set l d j _ hd]
          split
          · rename_i e; rw [e, HX.out]; omega
          · exact Int.le_refl _
        have HSA : Hid (∀ k, k < d → stN l c first (k + 1) = stN (l.set d (x + more)) c first (k + 1)) := fun k hk => stN_same _ fun j hj => by
          rw [nthI_set l d j _ hd, if_neg (by omega)]
        go_enter Try.func6, Try.ntmps6
        go_wp2_with fail
        refine (series_any _ cap l hl c first w HS.out HE HN).mono ?_; rintro e w1 ⟨⟨a1, c1, rfl, hF1⟩, hg1⟩
        have K := Lib.hid hg1; have HF1 := Lib.hid hF1
        have cx1 := grown_cell hg1 cx
        clear hg1 hF1 cx
        go_wp2_with fail
        refine (fclone_is _ cap l h5 (by omega) w1 (HS.out.grown K.out)).mono ?_; rintro e w2 ⟨⟨g, c2, rfl, hbg, hI, hfr⟩, hg2⟩
        have cg : w2.cell? ⟨g, d, none⟩ = some (.int .i64 x) := by have := hI.cells _ rfl d hd; rw [HX.out] at this; simpa using this
        have fg := hfr d
        have HI2 : Hid (IntsAt (w2.setCell ⟨g, d, none⟩ (.int .i64 (x + more))) (some ⟨g, 0, none⟩) (l.set d (x + more))) := hI.set_new hd _
        have HG3 : Hid (w1.grownBy (w2.setCell ⟨g, d, none⟩ (.int .i64 (x + more))) none) := egrown_set hg2 hbg _ _
        have K3 := Lib.hid (grown_trans K.out HG3.out)
        have HF3 := Lib.hid (HF1.out.grown HG3.out)
        clear hI hg2 hfr HF1 cx1 K HG3
        go_wp2_with fail
        have hser := series_any (some ⟨g, 0, none⟩) c2 (l.set d (x + more)) (by rw [HLEN.out]; omega) c first _ HI2.out HE2 HN2
        rw [HLEN.out] at hser
        refine hser.mono ?_; rintro e w4 ⟨⟨a4, c4, rfl, hF4⟩, hg4⟩
        have HF1 := Lib.hid (HF3.out.grown hg4); have HF4 := Lib.hid hF4; have K4 := Lib.hid (grown_trans K3.out hg4)
        clear hser hF4 hg4 HF3 K3 HI2
        have hp : 0 < l.length := by omega
        obtain ⟨ga, rfl, ca⟩ := HF1.out.at hp
        obtain ⟨gb, rfl, cb⟩ := HF4.out.at hp
        have CA := Lib.hid ca; have CB := Lib.hid cb
        clear ca cb HF1 HF4 HE2 HN2 HOK2 HX fg cg hbg
        go_wp2_with fail
        go_loopw [89] (fun iv wr => ∃ k : Nat, k ≤ l.length ∧ iv = .int .i64 k ∧ Hid (w4.grownBy wr none))
          (fun iv _ => l.length - (intOf iv).toNat)
        case atStart => exact ⟨0, Nat.zero_le _, rfl, grown_refl _ _⟩
        case round =>
          obtain ⟨k, hk, rfl, hg⟩ := hrel
          by_cases hlt : k < l.length
          · have d0 := grown_cell hg.out (CA.out k hlt)
            have d1 := grown_cell hg.out (CB.out k hlt)
            have m0 := HMO.out k
            have m1 := HSA.out k
            generalize stN l c first (k + 1) = y at *
            generalize stN (l.set d (x + more)) c first (k + 1) = z at *
            by_cases hkd : k < d
            · have hyz := m1 hkd
              subst hyz
              have hkd' : (k : Int) < (d : Int) := by omega
              have e1 : decide (y < y) = false := by simp
              have e2 : decide ((k : Int) < (d : Int)) = true := decide_eq_true hkd'
              clear m1
              go_wp2_with fail
              go_quiet (fail)
              go_wp2_with fail
              go_roundw
              case rel => exact ⟨k + 1, by omega, by go_num, grown_trans hg.out (grown_drewN _ _ _)⟩
              case measure => simp [intOf]; omega
            · have hkd' : ¬ (k : Int) < (d : Int) := by omega
              have e1 : decide (z < y) = false := decide_eq_false (by omega)
              have e2 : decide ((k : Int) < (d : Int)) = false := decide_eq_false hkd'
              clear m1
              go_wp2_with fail
              go_quiet (fail)
              go_wp2_with fail
              go_roundw
              case rel => exact ⟨k + 1, by omega, by go_num, grown_trans hg.out (grown_drewN _ _ _)⟩
              case measure => simp [intOf]; omega
          · go_wp2_with fail
            refine (ftold_any _).mono ?_; rintro e w6 ⟨rfl, hg6⟩
            have K6 := Lib.hid (grown_trans K4.out (grown_trans hg.out hg6))
            clear hg6
            go_wp2_with fail
            go_ret
            exact ⟨by first | rfl | simp, K6.out⟩
      · go_enter Try.func6, Try.ntmps6
        go_wp2_with fail
        refine (series_any _ cap l hl c first w HS.out HE HN).mono ?_; rintro e w1 ⟨⟨a1, c1, rfl, hF1⟩, hg1⟩
        have K := Lib.hid hg1
        have cx1 := grown_cell hg1 cx
        clear hg1 hF1 cx
        by_cases hm0 : 0 ≤ more
        · have hm1 : 10000 - x < more := by omega
          clear hm
          go_wp2_with fail
          refine (ftold_any _).mono ?_; rintro e w6 ⟨rfl, hg6⟩
          have K6 := Lib.hid (grown_trans K.out hg6)
          clear hg6
          go_wp2_with fail
          go_ret
          exact ⟨by first | rfl | simp, K6.out⟩
        · clear hm
          go_wp2_with fail
          refine (ftold_any _).mono ?_; rintro e w6 ⟨rfl, hg6⟩
          have K6 := Lib.hid (grown_trans K.out hg6)
          clear hg6
          go_wp2_with fail
          go_ret
          exact ⟨by first | rfl | simp, K6.out⟩
    · go_enter Try.func6, Try.ntmps6
      go_wp2_with fail
      refine (series_any _ cap l hl c first w HS.out HE HN).mono ?_; rintro e w1 ⟨⟨a1, c1, rfl, hF1⟩, hg1⟩
      have K := Lib.hid hg1
      clear hg1 hF1
      by_cases hd0 : 0 ≤ day
      · have hd1 : (l.length : Int) ≤ day := by omega
        clear ha
        go_wp2_with fail
        refine (ftold_any _).mono ?_; rintro e w6 ⟨rfl, hg6⟩
        have K6 := Lib.hid (grown_trans K.out hg6)
        clear hg6
        go_wp2_with fail
        go_ret
        exact ⟨by first | rfl | simp, K6.out⟩
      · clear ha
        go_wp2_with fail
        refine (ftold_any _).mono ?_; rintro e w6 ⟨rfl, hg6⟩
        have K6 := Lib.hid (grown_trans K.out hg6)
        clear hg6
        go_wp2_with fail
        go_ret
        exact ⟨by first | rfl | simp, K6.out⟩
  · have hne : (E != 0) = true := by simpa using h0
    clear hnl hokk h0
    go_enter Try.func6, Try.ntmps6
    go_wp2_with fail
    refine (series_any _ cap l hl c first w HS.out HE HN).mono ?_; rintro e w1 ⟨⟨a1, c1, rfl, hF1⟩, hg1⟩
    have K := Lib.hid hg1
    clear hg1 hF1
    go_wp2_with fail
    refine (rseries_any _ cap l hl c first w1 (HS.out.grown K.out) HE HN).mono ?_; rintro e w2 ⟨⟨a2, c2, rfl, hF2⟩, hg2⟩
    replace K := Lib.hid (grown_trans K.out hg2)
    clear hg2 hF2
    go_wp2_with fail
    refine (ftold_any _).mono ?_; rintro e w6 ⟨rfl, hg6⟩
    have K6 := Lib.hid (grown_trans K.out hg6)
    clear hg6
    go_wp2_with fail
    go_ret
    exact ⟨by first | rfl | simp, K6.out⟩

end Go.Proofs.Ytdihmcbjoociiaa
