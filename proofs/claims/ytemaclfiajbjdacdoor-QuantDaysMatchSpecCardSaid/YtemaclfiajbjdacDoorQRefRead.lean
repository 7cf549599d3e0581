/- The contract of the reference's ReadDate. -/
import Derived.Test.YtemaclfiajbjdacDoorQFirst
import Derived.Test.YtemaclfiajbjdacDoorQReadDay
import Derived.Test.YtemaclfiajbjdacDoorQRefDay
import Derived.BigQuiet
namespace Go.Proofs.YtemaclfiajbjdacDoor
open Go.RowKit

theorem dayV_err {y m d : Int} (h : (dayV y m d).2 ≠ 0) : dayV y m d = (0, 9) := by
  unfold dayV at h ⊢
  split at h
  · rw [if_pos (by assumption)]
  · exact absurd rfl h

theorem rDayOf_quiet {y m d v e : Int} (h : Hid (dayV y m d = (v, e))) (w : World) :
    Calls Tryd.prog 7 #[.int .i64 y, .int .i64 m, .int .i64 d] w fun x w' => x = .returned (.tuple #[.int .i64 v, .int .i64 e]) ∧ ∃ n, w' = w.drewN n := by
  have q := rDayOf_any y m d w
  rw [h.out] at q
  exact q.mono (fun _ _ ⟨a, b⟩ => ⟨a, 0, by rw [← b]; rfl⟩)

theorem int_cells {w : World} {base : Nat} {v : Value} {xs : List Int} (h : w.ownsRow base 3 1 v xs.length (xs.map (Value.int .i64))) (hx : 0 < xs.length) :
    ∃ g cap, v = .slice (some ⟨g, 0, none⟩) xs.length cap ∧ ∀ j (hj : j < xs.length), w.cell? ⟨g, j, none⟩ = some (.int .i64 xs[j]) := by
  rcases h.2 with ⟨_, h0⟩ | ⟨g, cap, cur, hv, _, hg, hn, _, hs, ht⟩
  · omega
  · refine ⟨g, cap, hv, fun j hj => ?_⟩
    have hjc : j < cur.size := by omega
    have e : cur[j]? = some (.int .i64 xs[j]) := by
      have h1 : (cur.toList.take (xs.length * 1))[j]? = (xs.map (Value.int .i64))[j]? := by rw [ht]
      rw [List.getElem?_take_of_lt (by omega)] at h1
      simpa [List.getElem?_eq_getElem hj] using h1
    simp [World.cell?, hg, e]

set_option maxHeartbeats 1600000 in
theorem rreadDate_any (s : ByteArray) (hs : s.size ≤ 140737488351232) (w : World) {n at_ e : Int} (h : Hid (dateAns (rem s 0) = (n, at_, e))) :
    Calls Tryd.prog 13 #[.string s] w fun x w' => x = .returned (.tuple #[.int .i64 n, .int .i64 at_, .int .i64 e]) ∧ w.grownBy w' none := by
  have hA := h.out
  unfold dateAns dateRead at hA
  rw [rem_zero_len] at hA
  clear h
  by_cases hbig : (1000 : Int) < (s.size : Int)
  · rw [if_pos hbig, if_neg (by decide)] at hA
    simp only [Prod.mk.injEq] at hA
    obtain ⟨rfl, rfl, rfl⟩ := hA
    go_enter Tryd.func13, Tryd.ntmps13
    go_wp2_with fail
    go_ret3
    exact ⟨rfl, grown_refl _ _⟩
  · rw [if_neg hbig] at hA
    obtain ⟨q1, q2, q3⟩ := dateFV_seq (rem s 0)
    obtain ⟨F, hF⟩ : ∃ F, dateFV (rem s 0) = F := ⟨_, rfl⟩
    rw [hF] at hA q1 q2 q3
    by_cases hk : F.ok = true ∧ F.used = s.size
    · obtain ⟨a, b, q4, q5, a0, a1, b0, b1⟩ := q3 hk.1
      have hv : firstV s.size (rem s 0) [dateToks] 0 0 = (0, [a, b, F.m, F.d], 0) := by
        simp only [firstV]; rw [if_pos (by rw [q1, q2]; exact hk), q4]; rfl
      rw [if_pos hk, if_pos rfl] at hA
      simp only at hA
      rw [← q5] at hA
      obtain ⟨m, hm⟩ : ∃ m, F.m = m := ⟨_, rfl⟩
      obtain ⟨d, hd⟩ : ∃ d, F.d = d := ⟨_, rfl⟩
      rw [hm, hd] at hA hv
      rcases hdv : dayV (100 * a + b) m d with ⟨v, er⟩
      rw [hdv] at hA
      simp only [Prod.mk.injEq] at hA
      obtain ⟨rfl, rfl, rfl⟩ := hA
      have herr : er ≠ 0 → v = 0 ∧ er = 9 := by
        intro hh
        have := dayV_err (y := 100 * a + b) (m := m) (d := d) (by rw [hdv]; exact hh)
        rw [hdv] at this
        simpa using this
      have HD := Lib.hid hdv; have HV := Lib.hid hv; have HE := Lib.hid herr
      clear hdv hv herr hk q1 q2 q3 q4 q5 hF hm hd
      go_enter Tryd.func13, Tryd.ntmps13
      go_wp2_with fail
      refine (dateForm_ref _).mono ?_; rintro x w1 ⟨g, rfl, ht, hg1⟩
      have hfm : FormsAt (w1.alloc (.cells #[.slice (some ⟨g, 0, none⟩) 6 6] 51)) w1.heap.size [dateToks] := by
        intro i hi
        obtain rfl : i = 0 := by simp at hi; exact hi
        have hb : (w1.alloc (.cells #[.slice (some ⟨g, 0, none⟩) 6 6] 51)).heap[w1.heap.size]? = _ := heap_alloc_new w1 _
        exact ⟨g, 6, by simp only [World.cell?, hb]; rfl, toks_grown ht (World.grownBy_alloc _ _ _), by show (6 : Nat) ≤ 100; omega⟩
      have HFM := Lib.hid hfm; clear hfm ht
      go_wp2_with fail
      refine (first_any s (by omega) _ 1 [dateToks] (by show (1 : Nat) ≤ 100; omega) _ HFM HV).mono ?_
      rintro x w2 ⟨lv, rfl, hown, hg2⟩
      obtain ⟨g', cap, rfl, hc⟩ := int_cells hown (by show 0 < 4; omega)
      have hgw := grown_trans hg1 (grown_trans (World.grownBy_alloc _ _ _) hg2)
      have c0 : ∀ q, (w2.drewN q).cell? ⟨g', 0, none⟩ = some (.int .i64 a) := fun q => by simpa using hc 0 (by show 0 < 4; omega)
      have c1 : ∀ q, (w2.drewN q).cell? ⟨g', 1, none⟩ = some (.int .i64 b) := fun q => by simpa using hc 1 (by show 1 < 4; omega)
      have c2 : ∀ q, (w2.drewN q).cell? ⟨g', 2, none⟩ = some (.int .i64 m) := fun q => by simpa using hc 2 (by show 2 < 4; omega)
      have c3 : ∀ q, (w2.drewN q).cell? ⟨g', 3, none⟩ = some (.int .i64 d) := fun q => by simpa using hc 3 (by show 3 < 4; omega)
      clear hc hown hg1 hg2
      go_wp2_with fail
      by_cases her : er = 0
      · have he1 : (er != 0) = false := by simp [her]
        subst her
        go_quiet (exact Calls.quiet_of (rDayOf_quiet HD _))
        go_wp2_with fail
        go_ret3
        exact ⟨rfl, grown_trans hgw (grown_drewN _ _ _)⟩
      · have he1 : (er != 0) = true := by simpa using her
        go_quiet (exact Calls.quiet_of (rDayOf_quiet HD _))
        go_wp2_with fail
        go_ret3
        obtain ⟨rfl, rfl⟩ := HE.out her
        exact ⟨rfl, grown_trans hgw (grown_drewN _ _ _)⟩
    · have hv : firstV s.size (rem s 0) [dateToks] 0 0 = (-1, [], F.used) := by
        simp only [firstV]; rw [if_neg (by rw [q1, q2]; exact hk), q1]; simp
      rw [if_neg hk, if_neg (by simp)] at hA
      simp only [Prod.mk.injEq] at hA
      obtain ⟨rfl, rfl, rfl⟩ := hA
      obtain ⟨u, hu⟩ : ∃ u, F.used = u := ⟨_, rfl⟩
      rw [hu] at hv
      rw [hu]
      have HV := Lib.hid hv
      clear hv hk q1 q2 q3 hF hu
      go_enter Tryd.func13, Tryd.ntmps13
      go_wp2_with fail
      refine (dateForm_ref _).mono ?_; rintro x w1 ⟨g, rfl, ht, hg1⟩
      have hfm : FormsAt (w1.alloc (.cells #[.slice (some ⟨g, 0, none⟩) 6 6] 51)) w1.heap.size [dateToks] := by
        intro i hi
        obtain rfl : i = 0 := by simp at hi; exact hi
        have hb : (w1.alloc (.cells #[.slice (some ⟨g, 0, none⟩) 6 6] 51)).heap[w1.heap.size]? = _ := heap_alloc_new w1 _
        exact ⟨g, 6, by simp only [World.cell?, hb]; rfl, toks_grown ht (World.grownBy_alloc _ _ _), by show (6 : Nat) ≤ 100; omega⟩
      have HFM := Lib.hid hfm; clear hfm ht
      go_wp2_with fail
      refine (first_any s (by omega) _ 1 [dateToks] (by show (1 : Nat) ≤ 100; omega) _ HFM HV).mono ?_
      rintro x w2 ⟨lv, rfl, hown, hg2⟩
      have hgw := grown_trans hg1 (grown_trans (World.grownBy_alloc _ _ _) hg2)
      clear hown hg1 hg2
      go_wp2_with fail
      go_ret3
      exact ⟨rfl, hgw⟩
end Go.Proofs.YtemaclfiajbjdacDoor
