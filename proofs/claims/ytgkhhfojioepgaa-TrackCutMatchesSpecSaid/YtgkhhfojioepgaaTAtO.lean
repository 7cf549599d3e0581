/- At of both sides, for any activity. -/
import Derived.Test.YtgkhhfojioepgaaTWhere
import Derived.Test.YtgkhhfojioepgaaBaseC
import Derived.Test.YtgkhhfojioepgaaTRStep
namespace Go.Proofs.Ytgkhhfojioepgaa
open Go.RowKit
set_option linter.unusedSimpArgs false
set_option linter.unusedVariables false

open Classical in
/-- The number of the first sample not before a second. -/
noncomputable def idxV (ss : List Smp) (s : Int) : Nat := if h : ∃ m, SIdx ss s m then Classical.choose h else 0
theorem idx_is {ss : List Smp} (h : SOk ss) (s : Int) : SIdx ss s (idxV ss s) := by
  unfold idxV; rw [dif_pos (sidx_any h s)]; exact Classical.choose_spec (sidx_any h s)
def smp0 : Smp := ⟨0, 0, 0, 0, 0, 0, 0⟩
/-- What At returns. -/
noncomputable def atO (a : Act) (s : Int) : Smp × Int := if chkE a = 0 then (if a.ss.length = 0 then (smp0, 13) else (if 0 ≤ s ∧ s ≤ spanL a.ss then (atV a.ss s (idxV a.ss s), 0) else (smp0, 9))) else (smp0, chkE a)
theorem span_last {ss : List Smp} (h : ss.length ≠ 0) : spanL ss = (smpD ss (ss.length - 1)).t := by
  rw [spanL_at (n := ss.length - 1) (by omega), ← smpD_at]
theorem idx_lt {ss : List Smp} (h : SOk ss) (hn : ss.length ≠ 0) {s : Int} (hs : s ≤ spanL ss) : idxV ss s < ss.length := by
  have q := idx_is h s
  rcases Nat.lt_or_ge (idxV ss s) ss.length with r | r
  · exact r
  · have := q.2.1 (ss.length - 1) (by omega)
    rw [span_last hn] at hs; omega
/-- The memory of At. -/
structure AtB (w : World) (A : Array Value) (W : World) : Prop where
  a : W.heap[w.heap.size]? = some (.cells A 26 (0, 0))
  z : W.heap[w.heap.size + 1]? = some (.cells #[.int .i64 0, .int .i64 0, .int .i64 0, .int .i64 0, .int .i64 0, .int .i64 0, .int .i64 0] 28 (0, 0))
  g : w.grownBy W none
theorem AtB.grown {w W W' : World} {A : Array Value} (h : AtB w A W) (hg : W.grownBy W' none) : AtB w A W' := by
  have k : ∀ {B : Nat} {o : Obj}, W.heap[B]? = some o → W'.heap[B]? = some o := fun {B o} h => (hg.block B (Array.getElem?_eq_some_iff.1 h).1 (by simp)).trans h
  exact ⟨k h.a, k h.z, grown_trans h.g hg⟩

set_option maxRecDepth 100000 in
set_option maxHeartbeats 3200000 in
theorem At_any (a : Act) (s : Int) (w : World) (ha : ActAt w a) {x : Smp} {E : Int} (hE : Hid (atO a s = (x, E))) :
    Calls Try.prog 15 #[a.val, .int .i64 s] w fun e w' => e = .returned (.tuple #[smpVal x, .int .i64 E]) ∧ w.grownBy w' none := by
  obtain ⟨ce, hce⟩ : ∃ e, chkE a = e := ⟨_, rfl⟩
  have hv := hE.out
  unfold atO at hv
  rw [hce] at hv
  have HCE := Lib.hid hce; have HA := Lib.hid ha
  by_cases c1 : ce = 0
  · rw [if_pos c1] at hv
    subst c1
    have hok := chk_ok hce
    by_cases c2 : a.ss.length = 0
    · rw [if_pos c2] at hv
      simp only [Prod.mk.injEq] at hv
      obtain ⟨rfl, rfl⟩ := hv
      obtain ⟨nm, sp, st, so, sc, ss, lo, lc, ls, to_, tc, ts⟩ := a
      simp only [Act.val] at *
      have C2 := Lib.hid c2
      clear hE hce hok ha c2
      have M0 : Hid (AtB w #[.string nm, .int .i64 sp, .int .i64 st, .slice so ss.length sc, .slice lo ls.length lc, .slice to_ ts.length tc] ((w.alloc (.cells #[.string nm, .int .i64 sp, .int .i64 st, .slice so ss.length sc, .slice lo ls.length lc, .slice to_ ts.length tc] 26)).alloc (.cells #[.int .i64 0, .int .i64 0, .int .i64 0, .int .i64 0, .int .i64 0, .int .i64 0, .int .i64 0] 28))) := by
        refine ⟨?_, ?_, grown_trans (World.grownBy_alloc _ _ none) (World.grownBy_alloc _ _ none)⟩
        · rw [Below.heap_alloc _ _ _ (by simp)]; exact heap_alloc_new w _
        · have := heap_alloc_new (w.alloc (.cells #[.string nm, .int .i64 sp, .int .i64 st, .slice so ss.length sc, .slice lo ls.length lc, .slice to_ ts.length tc] 26)) (.cells #[.int .i64 0, .int .i64 0, .int .i64 0, .int .i64 0, .int .i64 0, .int .i64 0, .int .i64 0] 28); simpa using this
      go_enter Try.func15, Try.ntmps15
      go_wp2_with fail
      refine (check_any ⟨nm, sp, st, so, sc, ss, lo, lc, ls, to_, tc, ts⟩ _ (HA.out.grown M0.out.g) HCE).mono ?_; rintro e w1 ⟨rfl, hg1⟩
      have M1 := Lib.hid (M0.out.grown hg1)
      clear hg1
      have hz : ((ss.length : Int) == 0) = true := beq_iff_eq.2 (by have := C2.out; omega)
      have z0 := block_cell M1.out.z 0 _ rfl
      have y0 := block_free (k := 0) M1.out.z
      have z1 := block_cell M1.out.z 1 _ rfl
      have y1 := block_free (k := 1) M1.out.z
      have z2 := block_cell M1.out.z 2 _ rfl
      have y2 := block_free (k := 2) M1.out.z
      have z3 := block_cell M1.out.z 3 _ rfl
      have y3 := block_free (k := 3) M1.out.z
      have z4 := block_cell M1.out.z 4 _ rfl
      have y4 := block_free (k := 4) M1.out.z
      have z5 := block_cell M1.out.z 5 _ rfl
      have y5 := block_free (k := 5) M1.out.z
      have z6 := block_cell M1.out.z 6 _ rfl
      have y6 := block_free (k := 6) M1.out.z
      have a0 := block_cell M1.out.a 0 _ rfl
      have a1 := block_cell M1.out.a 1 _ rfl
      have a2 := block_cell M1.out.a 2 _ rfl
      have a3 := block_cell M1.out.a 3 _ rfl
      have a4 := block_cell M1.out.a 4 _ rfl
      have a5 := block_cell M1.out.a 5 _ rfl
      go_wp2_with fail
      refine bodyPost_ret (v := .tuple #[.agg #[.int .i64 0, .int .i64 0, .int .i64 0, .int .i64 0, .int .i64 0, .int .i64 0, .int .i64 0], .int .i64 13]) (by simp [results, Try.results15, go_sem, z0, z1, z2, z3, z4, z5, z6]) rfl ⟨by first | rfl | (unfold smpVal; rfl), ?_⟩
      exact grown_far (grown_far (grown_far (grown_far (grown_far (grown_far (grown_far M1.out.g (by omega) _ _) (by omega) _ _) (by omega) _ _) (by omega) _ _) (by omega) _ _) (by omega) _ _) (by omega) _ _
    · rw [if_neg c2] at hv
      have hl : (a.ss.length : Int) ≤ 20000 := hok.sl
      have HS := Lib.hid (sok_of hok)
      obtain ⟨sv, hsv⟩ : ∃ e, spanL a.ss = e := ⟨_, rfl⟩
      have HSV := Lib.hid hsv
      by_cases c3 : 0 ≤ s ∧ s ≤ spanL a.ss
      · rw [if_pos c3] at hv
        simp only [Prod.mk.injEq] at hv
        obtain ⟨hx, rfl⟩ := hv
        have HX := Lib.hid hx
        have HM := Lib.hid (idx_is HS.out s)
        have hml := idx_lt HS.out c2 c3.2
        have hs0 := c3.1
        have hs1 := c3.2
        rw [hsv] at hs1
        obtain ⟨nm, sp, st, so, sc, ss, lo, lc, ls, to_, tc, ts⟩ := a
        simp only [Act.val] at *
        obtain ⟨b, off, rfl⟩ : ∃ b off, so = some ⟨b, off, none⟩ := by
          have hne : ss ≠ [] := fun h => c2 (by rw [h]; rfl)
          cases so with
          | none => exact absurd (ha.hs.nil rfl) hne
          | some p =>
            obtain ⟨b, off, spot⟩ := p
            have hsp := ha.hs.spot _ rfl hne
            simp only at hsp
            subst hsp
            exact ⟨b, off, rfl⟩
        have hz : ((ss.length : Int) == 0) = false := beq_eq_false_iff_ne.2 (by omega)
        clear hE hce hok ha hx hsv c3
        have M0 : Hid (AtB w #[.string nm, .int .i64 sp, .int .i64 st, .slice (some ⟨b, off, none⟩) ss.length sc, .slice lo ls.length lc, .slice to_ ts.length tc] ((w.alloc (.cells #[.string nm, .int .i64 sp, .int .i64 st, .slice (some ⟨b, off, none⟩) ss.length sc, .slice lo ls.length lc, .slice to_ ts.length tc] 26)).alloc (.cells #[.int .i64 0, .int .i64 0, .int .i64 0, .int .i64 0, .int .i64 0, .int .i64 0, .int .i64 0] 28))) := by
          refine ⟨?_, ?_, grown_trans (World.grownBy_alloc _ _ none) (World.grownBy_alloc _ _ none)⟩
          · rw [Below.heap_alloc _ _ _ (by simp)]; exact heap_alloc_new w _
          · have := heap_alloc_new (w.alloc (.cells #[.string nm, .int .i64 sp, .int .i64 st, .slice (some ⟨b, off, none⟩) ss.length sc, .slice lo ls.length lc, .slice to_ ts.length tc] 26)) (.cells #[.int .i64 0, .int .i64 0, .int .i64 0, .int .i64 0, .int .i64 0, .int .i64 0, .int .i64 0] 28); simpa using this
        go_enter Try.func15, Try.ntmps15
        go_wp2_with fail
        refine (check_any ⟨nm, sp, st, some ⟨b, off, none⟩, sc, ss, lo, lc, ls, to_, tc, ts⟩ _ (HA.out.grown M0.out.g) HCE).mono ?_; rintro e w1 ⟨rfl, hg1⟩
        have M1 := Lib.hid (M0.out.grown hg1)
        clear hg1
        have a0 := block_cell M1.out.a 0 _ rfl
        have a1 := block_cell M1.out.a 1 _ rfl
        have a2 := block_cell M1.out.a 2 _ rfl
        have a3 := block_cell M1.out.a 3 _ rfl
        have a4 := block_cell M1.out.a 4 _ rfl
        have a5 := block_cell M1.out.a 5 _ rfl
        go_wp2_with fail
        refine (span_any ⟨nm, sp, st, some ⟨b, off, none⟩, sc, ss, lo, lc, ls, to_, tc, ts⟩ (by show (ss.length : Int) ≤ _; omega) _ (HA.out.hs.grown M1.out.g) HSV).mono ?_; rintro e w2 ⟨rfl, hg2⟩
        have M2 := Lib.hid (M1.out.grown hg2)
        clear hg2 a0 a1 a2 a3 a4 a5
        go_wp2_with fail
        refine (twithin_yes _ _ _ hs0 hs1 _).mono ?_; rintro e w3 ⟨rfl, rfl⟩
        have M3 := M2
        have a0 := block_cell M3.out.a 0 _ rfl
        have a1 := block_cell M3.out.a 1 _ rfl
        have a2 := block_cell M3.out.a 2 _ rfl
        have a3 := block_cell M3.out.a 3 _ rfl
        have a4 := block_cell M3.out.a 4 _ rfl
        have a5 := block_cell M3.out.a 5 _ rfl
        go_wp2_with fail
        refine (sampleAt_is b off sc ss HS s HM hml hs0 _ (HA.out.hs.grown M3.out.g) HX).mono ?_; rintro e w4 ⟨rfl, hg4⟩
        have M4 := Lib.hid (M3.out.grown hg4)
        clear hg4 a0 a1 a2 a3 a4 a5
        have z0 := block_cell M4.out.z 0 _ rfl
        have y0 := block_free (k := 0) M4.out.z
        have z1 := block_cell M4.out.z 1 _ rfl
        have y1 := block_free (k := 1) M4.out.z
        have z2 := block_cell M4.out.z 2 _ rfl
        have y2 := block_free (k := 2) M4.out.z
        have z3 := block_cell M4.out.z 3 _ rfl
        have y3 := block_free (k := 3) M4.out.z
        have z4 := block_cell M4.out.z 4 _ rfl
        have y4 := block_free (k := 4) M4.out.z
        have z5 := block_cell M4.out.z 5 _ rfl
        have y5 := block_free (k := 5) M4.out.z
        have z6 := block_cell M4.out.z 6 _ rfl
        have y6 := block_free (k := 6) M4.out.z
        unfold smpVal
        go_wp2_with fail
        refine bodyPost_ret (v := .tuple #[.agg #[.int .i64 x.t, .int .i64 x.x, .int .i64 x.y, .int .i64 x.z, .int .i64 x.p, .int .i64 x.q, .int .i64 x.s], .int .i64 0]) (by simp [results, Try.results15, go_sem, z0, z1, z2, z3, z4, z5, z6]) rfl ⟨by first | rfl | (unfold smpVal; rfl), ?_⟩
        exact grown_far (grown_far (grown_far (grown_far (grown_far (grown_far (grown_far M4.out.g (by omega) _ _) (by omega) _ _) (by omega) _ _) (by omega) _ _) (by omega) _ _) (by omega) _ _) (by omega) _ _
      · rw [if_neg c3] at hv
        simp only [Prod.mk.injEq] at hv
        obtain ⟨rfl, rfl⟩ := hv
        have C3 : Hid (s < 0 ∨ sv < s) := by rw [hsv] at c3; show _ ∨ _; omega
        obtain ⟨nm, sp, st, so, sc, ss, lo, lc, ls, to_, tc, ts⟩ := a
        simp only [Act.val] at *
        have hz : ((ss.length : Int) == 0) = false := beq_eq_false_iff_ne.2 (by omega)
        clear hE hce hok ha hsv c3
        have M0 : Hid (AtB w #[.string nm, .int .i64 sp, .int .i64 st, .slice so ss.length sc, .slice lo ls.length lc, .slice to_ ts.length tc] ((w.alloc (.cells #[.string nm, .int .i64 sp, .int .i64 st, .slice so ss.length sc, .slice lo ls.length lc, .slice to_ ts.length tc] 26)).alloc (.cells #[.int .i64 0, .int .i64 0, .int .i64 0, .int .i64 0, .int .i64 0, .int .i64 0, .int .i64 0] 28))) := by
          refine ⟨?_, ?_, grown_trans (World.grownBy_alloc _ _ none) (World.grownBy_alloc _ _ none)⟩
          · rw [Below.heap_alloc _ _ _ (by simp)]; exact heap_alloc_new w _
          · have := heap_alloc_new (w.alloc (.cells #[.string nm, .int .i64 sp, .int .i64 st, .slice so ss.length sc, .slice lo ls.length lc, .slice to_ ts.length tc] 26)) (.cells #[.int .i64 0, .int .i64 0, .int .i64 0, .int .i64 0, .int .i64 0, .int .i64 0, .int .i64 0] 28); simpa using this
        go_enter Try.func15, Try.ntmps15
        go_wp2_with fail
        refine (check_any ⟨nm, sp, st, so, sc, ss, lo, lc, ls, to_, tc, ts⟩ _ (HA.out.grown M0.out.g) HCE).mono ?_; rintro e w1 ⟨rfl, hg1⟩
        have M1 := Lib.hid (M0.out.grown hg1)
        clear hg1
        have a0 := block_cell M1.out.a 0 _ rfl
        have a1 := block_cell M1.out.a 1 _ rfl
        have a2 := block_cell M1.out.a 2 _ rfl
        have a3 := block_cell M1.out.a 3 _ rfl
        have a4 := block_cell M1.out.a 4 _ rfl
        have a5 := block_cell M1.out.a 5 _ rfl
        go_wp2_with fail
        refine (span_any ⟨nm, sp, st, so, sc, ss, lo, lc, ls, to_, tc, ts⟩ (by show (ss.length : Int) ≤ _; omega) _ (HA.out.hs.grown M1.out.g) HSV).mono ?_; rintro e w2 ⟨rfl, hg2⟩
        have M2 := Lib.hid (M1.out.grown hg2)
        clear hg2 a0 a1 a2 a3 a4 a5
        go_wp2_with fail
        refine (twithin_no _ _ _ C3.out _).mono ?_; rintro e w3 ⟨rfl, rfl⟩
        have z0 := block_cell M2.out.z 0 _ rfl
        have y0 := block_free (k := 0) M2.out.z
        have z1 := block_cell M2.out.z 1 _ rfl
        have y1 := block_free (k := 1) M2.out.z
        have z2 := block_cell M2.out.z 2 _ rfl
        have y2 := block_free (k := 2) M2.out.z
        have z3 := block_cell M2.out.z 3 _ rfl
        have y3 := block_free (k := 3) M2.out.z
        have z4 := block_cell M2.out.z 4 _ rfl
        have y4 := block_free (k := 4) M2.out.z
        have z5 := block_cell M2.out.z 5 _ rfl
        have y5 := block_free (k := 5) M2.out.z
        have z6 := block_cell M2.out.z 6 _ rfl
        have y6 := block_free (k := 6) M2.out.z
        go_wp2_with fail
        refine bodyPost_ret (v := .tuple #[.agg #[.int .i64 0, .int .i64 0, .int .i64 0, .int .i64 0, .int .i64 0, .int .i64 0, .int .i64 0], .int .i64 9]) (by simp [results, Try.results15, go_sem, z0, z1, z2, z3, z4, z5, z6]) rfl ⟨by first | rfl | (unfold smpVal; rfl), ?_⟩
        exact grown_far (grown_far (grown_far (grown_far (grown_far (grown_far (grown_far M2.out.g (by omega) _ _) (by omega) _ _) (by omega) _ _) (by omega) _ _) (by omega) _ _) (by omega) _ _) (by omega) _ _
  · rw [if_neg c1] at hv
    simp only [Prod.mk.injEq] at hv
    obtain ⟨rfl, rfl⟩ := hv
    have hne : (ce != 0) = true := by simpa using c1
    obtain ⟨nm, sp, st, so, sc, ss, lo, lc, ls, to_, tc, ts⟩ := a
    simp only [Act.val] at *
    clear hE hce ha c1
    have M0 : Hid (AtB w #[.string nm, .int .i64 sp, .int .i64 st, .slice so ss.length sc, .slice lo ls.length lc, .slice to_ ts.length tc] ((w.alloc (.cells #[.string nm, .int .i64 sp, .int .i64 st, .slice so ss.length sc, .slice lo ls.length lc, .slice to_ ts.length tc] 26)).alloc (.cells #[.int .i64 0, .int .i64 0, .int .i64 0, .int .i64 0, .int .i64 0, .int .i64 0, .int .i64 0] 28))) := by
      refine ⟨?_, ?_, grown_trans (World.grownBy_alloc _ _ none) (World.grownBy_alloc _ _ none)⟩
      · rw [Below.heap_alloc _ _ _ (by simp)]; exact heap_alloc_new w _
      · have := heap_alloc_new (w.alloc (.cells #[.string nm, .int .i64 sp, .int .i64 st, .slice so ss.length sc, .slice lo ls.length lc, .slice to_ ts.length tc] 26)) (.cells #[.int .i64 0, .int .i64 0, .int .i64 0, .int .i64 0, .int .i64 0, .int .i64 0, .int .i64 0] 28); simpa using this
    go_enter Try.func15, Try.ntmps15
    go_wp2_with fail
    refine (check_any ⟨nm, sp, st, so, sc, ss, lo, lc, ls, to_, tc, ts⟩ _ (HA.out.grown M0.out.g) HCE).mono ?_; rintro e w1 ⟨rfl, hg1⟩
    have M1 := Lib.hid (M0.out.grown hg1)
    clear hg1
    have z0 := block_cell M1.out.z 0 _ rfl
    have y0 := block_free (k := 0) M1.out.z
    have z1 := block_cell M1.out.z 1 _ rfl
    have y1 := block_free (k := 1) M1.out.z
    have z2 := block_cell M1.out.z 2 _ rfl
    have y2 := block_free (k := 2) M1.out.z
    have z3 := block_cell M1.out.z 3 _ rfl
    have y3 := block_free (k := 3) M1.out.z
    have z4 := block_cell M1.out.z 4 _ rfl
    have y4 := block_free (k := 4) M1.out.z
    have z5 := block_cell M1.out.z 5 _ rfl
    have y5 := block_free (k := 5) M1.out.z
    have z6 := block_cell M1.out.z 6 _ rfl
    have y6 := block_free (k := 6) M1.out.z
    go_wp2_with fail
    refine bodyPost_ret (v := .tuple #[.agg #[.int .i64 0, .int .i64 0, .int .i64 0, .int .i64 0, .int .i64 0, .int .i64 0, .int .i64 0], .int .i64 ce]) (by simp [results, Try.results15, go_sem, z0, z1, z2, z3, z4, z5, z6]) rfl ⟨by first | rfl | (unfold smpVal; rfl), ?_⟩
    exact grown_far (grown_far (grown_far (grown_far (grown_far (grown_far (grown_far M1.out.g (by omega) _ _) (by omega) _ _) (by omega) _ _) (by omega) _ _) (by omega) _ _) (by omega) _ _) (by omega) _ _

set_option maxRecDepth 100000 in
set_option maxHeartbeats 3200000 in
theorem rAt_any (a : Act) (s : Int) (w : World) (ha : ActAt w a) {x : Smp} {E : Int} (hE : Hid (atO a s = (x, E))) :
    Calls Try.prog 16 #[a.val, .int .i64 s] w fun e w' => e = .returned (.tuple #[smpVal x, .int .i64 E]) ∧ w.grownBy w' none := by
  obtain ⟨ce, hce⟩ : ∃ e, chkE a = e := ⟨_, rfl⟩
  have hv := hE.out
  unfold atO at hv
  rw [hce] at hv
  have HCE := Lib.hid hce; have HA := Lib.hid ha
  by_cases c1 : ce = 0
  · rw [if_pos c1] at hv
    subst c1
    have hok := chk_ok hce
    by_cases c2 : a.ss.length = 0
    · rw [if_pos c2] at hv
      simp only [Prod.mk.injEq] at hv
      obtain ⟨rfl, rfl⟩ := hv
      obtain ⟨nm, sp, st, so, sc, ss, lo, lc, ls, to_, tc, ts⟩ := a
      simp only [Act.val] at *
      have C2 := Lib.hid c2
      clear hE hce hok ha c2
      have M0 : Hid (AtB w #[.string nm, .int .i64 sp, .int .i64 st, .slice so ss.length sc, .slice lo ls.length lc, .slice to_ ts.length tc] ((w.alloc (.cells #[.string nm, .int .i64 sp, .int .i64 st, .slice so ss.length sc, .slice lo ls.length lc, .slice to_ ts.length tc] 26)).alloc (.cells #[.int .i64 0, .int .i64 0, .int .i64 0, .int .i64 0, .int .i64 0, .int .i64 0, .int .i64 0] 28))) := by
        refine ⟨?_, ?_, grown_trans (World.grownBy_alloc _ _ none) (World.grownBy_alloc _ _ none)⟩
        · rw [Below.heap_alloc _ _ _ (by simp)]; exact heap_alloc_new w _
        · have := heap_alloc_new (w.alloc (.cells #[.string nm, .int .i64 sp, .int .i64 st, .slice so ss.length sc, .slice lo ls.length lc, .slice to_ ts.length tc] 26)) (.cells #[.int .i64 0, .int .i64 0, .int .i64 0, .int .i64 0, .int .i64 0, .int .i64 0, .int .i64 0] 28); simpa using this
      go_enter Try.func16, Try.ntmps16
      go_wp2_with fail
      refine (rcheck_any ⟨nm, sp, st, so, sc, ss, lo, lc, ls, to_, tc, ts⟩ _ (HA.out.grown M0.out.g) HCE).mono ?_; rintro e w1 ⟨rfl, hg1⟩
      have M1 := Lib.hid (M0.out.grown hg1)
      clear hg1
      have hz : ((ss.length : Int) == 0) = true := beq_iff_eq.2 (by have := C2.out; omega)
      have z0 := block_cell M1.out.z 0 _ rfl
      have y0 := block_free (k := 0) M1.out.z
      have z1 := block_cell M1.out.z 1 _ rfl
      have y1 := block_free (k := 1) M1.out.z
      have z2 := block_cell M1.out.z 2 _ rfl
      have y2 := block_free (k := 2) M1.out.z
      have z3 := block_cell M1.out.z 3 _ rfl
      have y3 := block_free (k := 3) M1.out.z
      have z4 := block_cell M1.out.z 4 _ rfl
      have y4 := block_free (k := 4) M1.out.z
      have z5 := block_cell M1.out.z 5 _ rfl
      have y5 := block_free (k := 5) M1.out.z
      have z6 := block_cell M1.out.z 6 _ rfl
      have y6 := block_free (k := 6) M1.out.z
      have a0 := block_cell M1.out.a 0 _ rfl
      have a1 := block_cell M1.out.a 1 _ rfl
      have a2 := block_cell M1.out.a 2 _ rfl
      have a3 := block_cell M1.out.a 3 _ rfl
      have a4 := block_cell M1.out.a 4 _ rfl
      have a5 := block_cell M1.out.a 5 _ rfl
      go_wp2_with fail
      refine bodyPost_ret (v := .tuple #[.agg #[.int .i64 0, .int .i64 0, .int .i64 0, .int .i64 0, .int .i64 0, .int .i64 0, .int .i64 0], .int .i64 13]) (by simp [results, Try.results16, go_sem, z0, z1, z2, z3, z4, z5, z6]) rfl ⟨by first | rfl | (unfold smpVal; rfl), ?_⟩
      exact grown_far (grown_far (grown_far (grown_far (grown_far (grown_far (grown_far M1.out.g (by omega) _ _) (by omega) _ _) (by omega) _ _) (by omega) _ _) (by omega) _ _) (by omega) _ _) (by omega) _ _
    · rw [if_neg c2] at hv
      have hl : (a.ss.length : Int) ≤ 20000 := hok.sl
      have HS := Lib.hid (sok_of hok)
      obtain ⟨sv, hsv⟩ : ∃ e, spanL a.ss = e := ⟨_, rfl⟩
      have HSV := Lib.hid hsv
      by_cases c3 : 0 ≤ s ∧ s ≤ spanL a.ss
      · rw [if_pos c3] at hv
        simp only [Prod.mk.injEq] at hv
        obtain ⟨hx, rfl⟩ := hv
        have HX := Lib.hid hx
        have HM := Lib.hid (idx_is HS.out s)
        have hml := idx_lt HS.out c2 c3.2
        have hs0 := c3.1
        have hs1 := c3.2
        rw [hsv] at hs1
        obtain ⟨nm, sp, st, so, sc, ss, lo, lc, ls, to_, tc, ts⟩ := a
        simp only [Act.val] at *
        obtain ⟨b, off, rfl⟩ : ∃ b off, so = some ⟨b, off, none⟩ := by
          have hne : ss ≠ [] := fun h => c2 (by rw [h]; rfl)
          cases so with
          | none => exact absurd (ha.hs.nil rfl) hne
          | some p =>
            obtain ⟨b, off, spot⟩ := p
            have hsp := ha.hs.spot _ rfl hne
            simp only at hsp
            subst hsp
            exact ⟨b, off, rfl⟩
        have hz : ((ss.length : Int) == 0) = false := beq_eq_false_iff_ne.2 (by omega)
        clear hE hce hok ha hx hsv c3
        have M0 : Hid (AtB w #[.string nm, .int .i64 sp, .int .i64 st, .slice (some ⟨b, off, none⟩) ss.length sc, .slice lo ls.length lc, .slice to_ ts.length tc] ((w.alloc (.cells #[.string nm, .int .i64 sp, .int .i64 st, .slice (some ⟨b, off, none⟩) ss.length sc, .slice lo ls.length lc, .slice to_ ts.length tc] 26)).alloc (.cells #[.int .i64 0, .int .i64 0, .int .i64 0, .int .i64 0, .int .i64 0, .int .i64 0, .int .i64 0] 28))) := by
          refine ⟨?_, ?_, grown_trans (World.grownBy_alloc _ _ none) (World.grownBy_alloc _ _ none)⟩
          · rw [Below.heap_alloc _ _ _ (by simp)]; exact heap_alloc_new w _
          · have := heap_alloc_new (w.alloc (.cells #[.string nm, .int .i64 sp, .int .i64 st, .slice (some ⟨b, off, none⟩) ss.length sc, .slice lo ls.length lc, .slice to_ ts.length tc] 26)) (.cells #[.int .i64 0, .int .i64 0, .int .i64 0, .int .i64 0, .int .i64 0, .int .i64 0, .int .i64 0] 28); simpa using this
        go_enter Try.func16, Try.ntmps16
        go_wp2_with fail
        refine (rcheck_any ⟨nm, sp, st, some ⟨b, off, none⟩, sc, ss, lo, lc, ls, to_, tc, ts⟩ _ (HA.out.grown M0.out.g) HCE).mono ?_; rintro e w1 ⟨rfl, hg1⟩
        have M1 := Lib.hid (M0.out.grown hg1)
        clear hg1
        have a0 := block_cell M1.out.a 0 _ rfl
        have a1 := block_cell M1.out.a 1 _ rfl
        have a2 := block_cell M1.out.a 2 _ rfl
        have a3 := block_cell M1.out.a 3 _ rfl
        have a4 := block_cell M1.out.a 4 _ rfl
        have a5 := block_cell M1.out.a 5 _ rfl
        go_wp2_with fail
        refine (rspan_any ⟨nm, sp, st, some ⟨b, off, none⟩, sc, ss, lo, lc, ls, to_, tc, ts⟩ (by show (ss.length : Int) ≤ _; omega) _ (HA.out.hs.grown M1.out.g) HSV).mono ?_; rintro e w2 ⟨rfl, hg2⟩
        have M2 := Lib.hid (M1.out.grown hg2)
        clear hg2 a0 a1 a2 a3 a4 a5
        go_wp2_with fail
        refine (rout_no _ _ _ hs0 hs1 _).mono ?_; rintro e w3 ⟨rfl, rfl⟩
        have M3 := M2
        have a0 := block_cell M3.out.a 0 _ rfl
        have a1 := block_cell M3.out.a 1 _ rfl
        have a2 := block_cell M3.out.a 2 _ rfl
        have a3 := block_cell M3.out.a 3 _ rfl
        have a4 := block_cell M3.out.a 4 _ rfl
        have a5 := block_cell M3.out.a 5 _ rfl
        go_wp2_with fail
        refine (where_is nm sp st b off sc ss lo lc ls to_ tc ts HS s HM hml hs0 _ (HA.out.hs.grown M3.out.g) HX).mono ?_; rintro e w4 ⟨rfl, hg4⟩
        have M4 := Lib.hid (M3.out.grown hg4)
        clear hg4 a0 a1 a2 a3 a4 a5
        have z0 := block_cell M4.out.z 0 _ rfl
        have y0 := block_free (k := 0) M4.out.z
        have z1 := block_cell M4.out.z 1 _ rfl
        have y1 := block_free (k := 1) M4.out.z
        have z2 := block_cell M4.out.z 2 _ rfl
        have y2 := block_free (k := 2) M4.out.z
        have z3 := block_cell M4.out.z 3 _ rfl
        have y3 := block_free (k := 3) M4.out.z
        have z4 := block_cell M4.out.z 4 _ rfl
        have y4 := block_free (k := 4) M4.out.z
        have z5 := block_cell M4.out.z 5 _ rfl
        have y5 := block_free (k := 5) M4.out.z
        have z6 := block_cell M4.out.z 6 _ rfl
        have y6 := block_free (k := 6) M4.out.z
        unfold smpVal
        go_wp2_with fail
        refine bodyPost_ret (v := .tuple #[.agg #[.int .i64 x.t, .int .i64 x.x, .int .i64 x.y, .int .i64 x.z, .int .i64 x.p, .int .i64 x.q, .int .i64 x.s], .int .i64 0]) (by simp [results, Try.results16, go_sem, z0, z1, z2, z3, z4, z5, z6]) rfl ⟨by first | rfl | (unfold smpVal; rfl), ?_⟩
        exact grown_far (grown_far (grown_far (grown_far (grown_far (grown_far (grown_far M4.out.g (by omega) _ _) (by omega) _ _) (by omega) _ _) (by omega) _ _) (by omega) _ _) (by omega) _ _) (by omega) _ _
      · rw [if_neg c3] at hv
        simp only [Prod.mk.injEq] at hv
        obtain ⟨rfl, rfl⟩ := hv
        have C3 : Hid (s < 0 ∨ sv < s) := by rw [hsv] at c3; show _ ∨ _; omega
        obtain ⟨nm, sp, st, so, sc, ss, lo, lc, ls, to_, tc, ts⟩ := a
        simp only [Act.val] at *
        have hz : ((ss.length : Int) == 0) = false := beq_eq_false_iff_ne.2 (by omega)
        clear hE hce hok ha hsv c3
        have M0 : Hid (AtB w #[.string nm, .int .i64 sp, .int .i64 st, .slice so ss.length sc, .slice lo ls.length lc, .slice to_ ts.length tc] ((w.alloc (.cells #[.string nm, .int .i64 sp, .int .i64 st, .slice so ss.length sc, .slice lo ls.length lc, .slice to_ ts.length tc] 26)).alloc (.cells #[.int .i64 0, .int .i64 0, .int .i64 0, .int .i64 0, .int .i64 0, .int .i64 0, .int .i64 0] 28))) := by
          refine ⟨?_, ?_, grown_trans (World.grownBy_alloc _ _ none) (World.grownBy_alloc _ _ none)⟩
          · rw [Below.heap_alloc _ _ _ (by simp)]; exact heap_alloc_new w _
          · have := heap_alloc_new (w.alloc (.cells #[.string nm, .int .i64 sp, .int .i64 st, .slice so ss.length sc, .slice lo ls.length lc, .slice to_ ts.length tc] 26)) (.cells #[.int .i64 0, .int .i64 0, .int .i64 0, .int .i64 0, .int .i64 0, .int .i64 0, .int .i64 0] 28); simpa using this
        go_enter Try.func16, Try.ntmps16
        go_wp2_with fail
        refine (rcheck_any ⟨nm, sp, st, so, sc, ss, lo, lc, ls, to_, tc, ts⟩ _ (HA.out.grown M0.out.g) HCE).mono ?_; rintro e w1 ⟨rfl, hg1⟩
        have M1 := Lib.hid (M0.out.grown hg1)
        clear hg1
        have a0 := block_cell M1.out.a 0 _ rfl
        have a1 := block_cell M1.out.a 1 _ rfl
        have a2 := block_cell M1.out.a 2 _ rfl
        have a3 := block_cell M1.out.a 3 _ rfl
        have a4 := block_cell M1.out.a 4 _ rfl
        have a5 := block_cell M1.out.a 5 _ rfl
        go_wp2_with fail
        refine (rspan_any ⟨nm, sp, st, so, sc, ss, lo, lc, ls, to_, tc, ts⟩ (by show (ss.length : Int) ≤ _; omega) _ (HA.out.hs.grown M1.out.g) HSV).mono ?_; rintro e w2 ⟨rfl, hg2⟩
        have M2 := Lib.hid (M1.out.grown hg2)
        clear hg2 a0 a1 a2 a3 a4 a5
        go_wp2_with fail
        refine (rout_yes _ _ _ C3.out _).mono ?_; rintro e w3 ⟨rfl, rfl⟩
        have z0 := block_cell M2.out.z 0 _ rfl
        have y0 := block_free (k := 0) M2.out.z
        have z1 := block_cell M2.out.z 1 _ rfl
        have y1 := block_free (k := 1) M2.out.z
        have z2 := block_cell M2.out.z 2 _ rfl
        have y2 := block_free (k := 2) M2.out.z
        have z3 := block_cell M2.out.z 3 _ rfl
        have y3 := block_free (k := 3) M2.out.z
        have z4 := block_cell M2.out.z 4 _ rfl
        have y4 := block_free (k := 4) M2.out.z
        have z5 := block_cell M2.out.z 5 _ rfl
        have y5 := block_free (k := 5) M2.out.z
        have z6 := block_cell M2.out.z 6 _ rfl
        have y6 := block_free (k := 6) M2.out.z
        go_wp2_with fail
        refine bodyPost_ret (v := .tuple #[.agg #[.int .i64 0, .int .i64 0, .int .i64 0, .int .i64 0, .int .i64 0, .int .i64 0, .int .i64 0], .int .i64 9]) (by simp [results, Try.results16, go_sem, z0, z1, z2, z3, z4, z5, z6]) rfl ⟨by first | rfl | (unfold smpVal; rfl), ?_⟩
        exact grown_far (grown_far (grown_far (grown_far (grown_far (grown_far (grown_far M2.out.g (by omega) _ _) (by omega) _ _) (by omega) _ _) (by omega) _ _) (by omega) _ _) (by omega) _ _) (by omega) _ _
  · rw [if_neg c1] at hv
    simp only [Prod.mk.injEq] at hv
    obtain ⟨rfl, rfl⟩ := hv
    have hne : (ce != 0) = true := by simpa using c1
    obtain ⟨nm, sp, st, so, sc, ss, lo, lc, ls, to_, tc, ts⟩ := a
    simp only [Act.val] at *
    clear hE hce ha c1
    have M0 : Hid (AtB w #[.string nm, .int .i64 sp, .int .i64 st, .slice so ss.length sc, .slice lo ls.length lc, .slice to_ ts.length tc] ((w.alloc (.cells #[.string nm, .int .i64 sp, .int .i64 st, .slice so ss.length sc, .slice lo ls.length lc, .slice to_ ts.length tc] 26)).alloc (.cells #[.int .i64 0, .int .i64 0, .int .i64 0, .int .i64 0, .int .i64 0, .int .i64 0, .int .i64 0] 28))) := by
      refine ⟨?_, ?_, grown_trans (World.grownBy_alloc _ _ none) (World.grownBy_alloc _ _ none)⟩
      · rw [Below.heap_alloc _ _ _ (by simp)]; exact heap_alloc_new w _
      · have := heap_alloc_new (w.alloc (.cells #[.string nm, .int .i64 sp, .int .i64 st, .slice so ss.length sc, .slice lo ls.length lc, .slice to_ ts.length tc] 26)) (.cells #[.int .i64 0, .int .i64 0, .int .i64 0, .int .i64 0, .int .i64 0, .int .i64 0, .int .i64 0] 28); simpa using this
    go_enter Try.func16, Try.ntmps16
    go_wp2_with fail
    refine (rcheck_any ⟨nm, sp, st, so, sc, ss, lo, lc, ls, to_, tc, ts⟩ _ (HA.out.grown M0.out.g) HCE).mono ?_; rintro e w1 ⟨rfl, hg1⟩
    have M1 := Lib.hid (M0.out.grown hg1)
    clear hg1
    have z0 := block_cell M1.out.z 0 _ rfl
    have y0 := block_free (k := 0) M1.out.z
    have z1 := block_cell M1.out.z 1 _ rfl
    have y1 := block_free (k := 1) M1.out.z
    have z2 := block_cell M1.out.z 2 _ rfl
    have y2 := block_free (k := 2) M1.out.z
    have z3 := block_cell M1.out.z 3 _ rfl
    have y3 := block_free (k := 3) M1.out.z
    have z4 := block_cell M1.out.z 4 _ rfl
    have y4 := block_free (k := 4) M1.out.z
    have z5 := block_cell M1.out.z 5 _ rfl
    have y5 := block_free (k := 5) M1.out.z
    have z6 := block_cell M1.out.z 6 _ rfl
    have y6 := block_free (k := 6) M1.out.z
    go_wp2_with fail
    refine bodyPost_ret (v := .tuple #[.agg #[.int .i64 0, .int .i64 0, .int .i64 0, .int .i64 0, .int .i64 0, .int .i64 0, .int .i64 0], .int .i64 ce]) (by simp [results, Try.results16, go_sem, z0, z1, z2, z3, z4, z5, z6]) rfl ⟨by first | rfl | (unfold smpVal; rfl), ?_⟩
    exact grown_far (grown_far (grown_far (grown_far (grown_far (grown_far (grown_far M1.out.g (by omega) _ _) (by omega) _ _) (by omega) _ _) (by omega) _ _) (by omega) _ _) (by omega) _ _) (by omega) _ _

end Go.Proofs.Ytgkhhfojioepgaa
