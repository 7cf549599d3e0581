/- The contract of search: the first sample that is not before a second. -/
import Derived.Test.YtgkhhfojioepgaaTRAt
import Derived.Test.YtgkhhfojioepgaaShelf
namespace Go.Proofs.Ytgkhhfojioepgaa
open Go.RowKit
set_option linter.unusedSimpArgs false
set_option linter.unusedVariables false

/-- The number of the first sample that is not before a second. -/
def SIdx (ss : List Smp) (s : Int) (m : Nat) : Prop := m ≤ ss.length ∧ (∀ j, j < m → (smpD ss j).t < s) ∧ (∀ j, m ≤ j → j < ss.length → s ≤ (smpD ss j).t)
theorem times_le {ss : List Smp} (h : SOk ss) {i j : Nat} (hij : i ≤ j) (hj : j < ss.length) : (smpD ss i).t ≤ (smpD ss j).t := by
  induction j with
  | zero => obtain rfl : i = 0 := (by omega); exact Int.le_refl _
  | succ j ih =>
    rcases Nat.lt_or_ge i (j + 1) with q | q
    · have := ih (by omega) (by omega); have := h.up j hj; omega
    · obtain rfl : i = j + 1 := (by omega); exact Int.le_refl _
theorem sidx_any {ss : List Smp} (h : SOk ss) (s : Int) : ∃ m, SIdx ss s m := by
  have q : ∀ n, n ≤ ss.length → ∃ m, m ≤ n ∧ (∀ j, j < m → (smpD ss j).t < s) ∧ (m < n → s ≤ (smpD ss m).t) := fun n => by
    induction n with
    | zero => intro _; exact ⟨0, Nat.le_refl _, fun j hj => absurd hj (by omega), fun h => absurd h (by omega)⟩
    | succ n ih =>
      intro hn
      obtain ⟨m, h1, h2, h3⟩ := ih (by omega)
      rcases Nat.lt_or_ge m n with r | r
      · exact ⟨m, by omega, h2, fun _ => h3 r⟩
      · obtain rfl : m = n := (by omega)
        rcases Int.lt_or_le (smpD ss m).t s with c | c
        · exact ⟨m + 1, Nat.le_refl _, fun j hj => by
            rcases Nat.lt_or_ge j m with e | e
            · exact h2 j e
            · obtain rfl : j = m := (by omega); exact c, fun h => absurd h (by omega)⟩
        · exact ⟨m, by omega, h2, fun _ => c⟩
  obtain ⟨m, h1, h2, h3⟩ := q _ (Nat.le_refl _)
  exact ⟨m, h1, h2, fun j hj hl => Int.le_trans (h3 (by omega)) (times_le h hj hl)⟩
theorem sidx_one {ss : List Smp} {s : Int} {m k : Nat} (h : SIdx ss s m) (h' : SIdx ss s k) : m = k := by
  rcases Nat.lt_trichotomy m k with q | q | q
  · have a := h'.2.1 m q; have b := h.2.2 m (Nat.le_refl _) (by have := h'.1; omega); omega
  · exact q
  · have a := h.2.1 k q; have b := h'.2.2 k (Nat.le_refl _) (by have := h.1; omega); omega

theorem search1_is (x : Smp) (s : Int) (w : World) {c : Int} (h : Hid (Lib.compareInt x.t s = c)) :
    Calls Try.prog 161 #[.agg #[.int .i64 x.t, .int .i64 x.x, .int .i64 x.y, .int .i64 x.z, .int .i64 x.p, .int .i64 x.q, .int .i64 x.s], .int .i64 s] w fun e w' => e = .returned (.int .i64 c) ∧ w.grownBy w' none := by
  obtain ⟨xt, xx, xy, xz, xp, xq, xs⟩ := x
  simp only at h ⊢
  have G := Lib.hid (World.grownBy_alloc w (.cells #[.int .i64 xt, .int .i64 xx, .int .i64 xy, .int .i64 xz, .int .i64 xp, .int .i64 xq, .int .i64 xs] 28) none)
  go_enter Try.func161, Try.ntmps161
  go_wp2_with fail
  refine (Try.cmp_Compare_int xt s _).mono ?_; rintro e w1 ⟨rfl, rfl⟩
  rw [h.out]
  go_wp2_with fail
  go_ret
  exact ⟨rfl, G.out⟩

set_option maxHeartbeats 1600000 in
theorem bsearch_is (b off cap : Nat) (ss : List Smp) (hl : (ss.length : Int) ≤ 20000) (s : Int) {m : Nat} (HM : Hid (SIdx ss s m)) (w : World) (hs : SmpsAt w (some ⟨b, off, none⟩) ss) {f : Bool} (hf : Hid (decide (m < ss.length ∧ (smpD ss m).t = s) = f)) :
    Calls Try.prog 160 #[.slice (some ⟨b, off, none⟩) ss.length cap, .int .i64 s, .func (.func 161) #[] #[]] w fun e w' => e = .returned (.tuple #[.int .i64 m, .bool f]) ∧ w.grownBy w' none := by
  have HS := Lib.hid hs; clear hs
  go_enter Try.func160, Try.ntmps160
  go_wp2_with fail
  go_loopw [9, 10] (fun s5 s6 wr => ∃ (lo hi : Nat), s5 = .int .i64 lo ∧ s6 = .int .i64 hi ∧ hi ≤ ss.length ∧ Hid (lo ≤ m ∧ m ≤ hi) ∧ Hid (w.grownBy wr none))
    (fun s5 s6 _ => (intOf s6).toNat - (intOf s5).toNat)
  case atStart => exact ⟨0, ss.length, rfl, rfl, Nat.le_refl _, ⟨Nat.zero_le _, HM.out.1⟩, grown_refl _ _⟩
  case round =>
    obtain ⟨lo, hi, rfl, rfl, hin, hM, hg⟩ := hrel
    by_cases hlt : lo < hi
    · obtain ⟨mid, hmid⟩ : ∃ mid, mid = (lo + hi) / 2 := ⟨_, rfl⟩
      have hmi : ((lo : Int) + (hi : Int)) / 2 = (mid : Int) := by omega
      have hml : mid < ss.length := by omega
      have hml2 : (mid : Int) < (ss.length : Int) := by omega
      have HMID := Lib.hid hmid
      obtain ⟨p0, p1, p2, p3, p4, p5, p6⟩ := (HS.out.grown hg.out).cells _ rfl mid hml
      rw [← smpD_at hml] at p0 p1 p2 p3 p4 p5 p6
      simp only at p0 p1 p2 p3 p4 p5 p6
      by_cases hc : (smpD ss mid).t < s
      · have hcv : Hid (Lib.compareInt (smpD ss mid).t s = -1) := by show _ = _; unfold Lib.compareInt; rw [if_pos hc]
        have HM2 : Hid (mid + 1 ≤ m ∧ m ≤ hi) := by
          refine ⟨?_, hM.out.2⟩
          rcases Nat.lt_or_ge mid m with q | q
          · exact q
          · have := HM.out.2.2 mid q hml; omega
        clear hmid
        go_wp2_with fail
        refine (search1_is (smpD ss mid) s _ hcv).mono ?_; rintro e w1 ⟨rfl, hg1⟩
        have GN := Lib.hid (grown_trans hg.out hg1)
        clear hg1 hg p0 p1 p2 p3 p4 p5 p6
        go_wp2_with fail
        go_roundw
        case rel => exact ⟨mid + 1, hi, by go_num, rfl, hin, HM2.out, GN.out⟩
        case measure => have := HMID.out; simp [intOf]; omega
      · obtain ⟨c, hcc⟩ : ∃ c, Lib.compareInt (smpD ss mid).t s = c := ⟨_, rfl⟩
        have hc0 : 0 ≤ c := by rw [← hcc]; unfold Lib.compareInt; rw [if_neg hc]; split <;> omega
        have HCC := Lib.hid hcc
        have HM2 : Hid (lo ≤ m ∧ m ≤ mid) := by
          refine ⟨hM.out.1, ?_⟩
          rcases Nat.lt_or_ge mid m with q | q
          · have := HM.out.2.1 mid q; omega
          · exact q
        have hcd : decide (c < 0) = false := by simp; omega
        clear hmid hcc
        go_wp2_with fail
        refine (search1_is (smpD ss mid) s _ HCC).mono ?_; rintro e w1 ⟨rfl, hg1⟩
        have GN := Lib.hid (grown_trans hg.out hg1)
        clear hg1 hg p0 p1 p2 p3 p4 p5 p6
        go_wp2_with fail
        go_roundw
        case rel => exact ⟨lo, mid, rfl, rfl, by omega, HM2.out, GN.out⟩
        case measure => have := HMID.out; simp [intOf]; omega
    · obtain rfl : lo = m := by have := hM.out; omega
      have hf2 := hf.out
      by_cases hln : lo < ss.length
      · have hml2 : (lo : Int) < (ss.length : Int) := by omega
        obtain ⟨p0, p1, p2, p3, p4, p5, p6⟩ := (HS.out.grown hg.out).cells _ rfl lo hln
        rw [← smpD_at hln] at p0 p1 p2 p3 p4 p5 p6
        simp only at p0 p1 p2 p3 p4 p5 p6
        obtain ⟨c, hcc⟩ : ∃ c, Lib.compareInt (smpD ss lo).t s = c := ⟨_, rfl⟩
        have HCC := Lib.hid hcc
        have hfe : Hid ((c == 0) = f) := by
          show _ = _
          rw [← hf2, ← hcc]
          unfold Lib.compareInt
          by_cases e1 : (smpD ss lo).t < s
          · rw [if_pos e1]; simp; omega
          · rw [if_neg e1]
            by_cases e2 : (smpD ss lo).t > s
            · rw [if_pos e2]; simp; omega
            · rw [if_neg e2]; simp; omega
        clear hcc hf2 hf
        go_wp2_with fail
        refine (search1_is (smpD ss lo) s _ HCC).mono ?_; rintro e w1 ⟨rfl, hg1⟩
        have GN := Lib.hid (grown_trans hg.out hg1)
        clear hg1 hg p0 p1 p2 p3 p4 p5 p6
        go_wp2_with fail
        have hfe2 := hfe.out
        subst hfe2
        go_ret2
        exact ⟨rfl, GN.out⟩
      · have hfe : f = false := by rw [← hf2]; simp; omega
        subst hfe
        have hml2 : ¬ ((lo : Int) < (ss.length : Int)) := by omega
        clear hf2
        go_wp2_with fail
        go_ret2
        exact ⟨rfl, hg.out⟩

theorem searchS_is (b off cap : Nat) (ss : List Smp) (hl : (ss.length : Int) ≤ 20000) (s : Int) {m : Nat} (HM : Hid (SIdx ss s m)) (w : World) (hs : SmpsAt w (some ⟨b, off, none⟩) ss) {f : Bool} (hf : Hid (decide (m < ss.length ∧ (smpD ss m).t = s) = f)) :
    Calls Try.prog 118 #[.slice (some ⟨b, off, none⟩) ss.length cap, .int .i64 s] w fun e w' => e = .returned (.tuple #[.int .i64 m, .bool f]) ∧ w.grownBy w' none := by
  have HS := Lib.hid hs; clear hs
  go_enter Try.func118, Try.ntmps118
  go_wp2_with fail
  refine (bsearch_is b off cap ss hl s HM _ HS.out hf).mono ?_; rintro e w1 ⟨rfl, hg1⟩
  go_wp2_with fail
  go_ret2
  exact ⟨rfl, hg1⟩

/-- Where somebody was at a second, the number of the first sample not before it at hand. -/
noncomputable def atV (ss : List Smp) (s : Int) (m : Nat) : Smp := if (smpD ss m).t = s then smpD ss m else onV (smpD ss (m - 1)) (smpD ss m) s
theorem smpIn_of {ss : List Smp} (h : SOk ss) {i : Nat} (hi : i < ss.length) : SmpIn (smpD ss i) := by
  obtain ⟨a, b, c, d, _⟩ := h.inn i hi
  exact ⟨⟨a, b⟩, c, d.1, d.2⟩
end Go.Proofs.Ytgkhhfojioepgaa
