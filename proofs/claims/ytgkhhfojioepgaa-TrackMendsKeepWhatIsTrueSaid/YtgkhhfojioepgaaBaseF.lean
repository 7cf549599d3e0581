/- Texts that all laws of this seat use, one behind the other. -/
import Derived.Test.YtgkhhfojioepgaaBaseE
import Derived.Test.YtgkhhfojioepgaaBaseC
import Derived.Test.YtgkhhfojioepgaaBaseD
namespace Go.Proofs.Ytgkhhfojioepgaa
open Go.RowKit
set_option linter.unusedSimpArgs false
set_option linter.unusedVariables false

open Classical in
/-- The number of the first sample not before a second. -/
noncomputable def idxV (ss : List Smp) (s : Int) : Nat := if h : ∃ m, SIdx ss s m then Classical.choose h else 0
theorem idx_is {ss : List Smp} (h : SOk ss) (s : Int) : SIdx ss s (idxV ss s) := by
  unfold idxV; rw [dif_pos (sidx_any h s)]; exact Classical.choose_spec (sidx_any h s)
def smp0 : Smp := ⟨0, 0, 0, 0, 0, 0, 0⟩
/-- What At returns. -/
noncomputable def atO (a : Act) (s : Int) : Smp × Int := if chkE a = 0 then (if a.ss.length = 0 then (smp0, 13) else (if 0 ≤ s ∧ s ≤ spanL a.ss then (atV a.ss s (idxV a.ss s), 0) else (smp0, 9))) else (smp0, chkE a)
theorem span_last {ss : List Smp} (h : ss.length ≠ 0) : spanL ss = (smpD ss (ss.length - 1)).t := by
  rw [spanL_at (n := ss.length - 1) (by omega), ← smpD_at]
theorem idx_lt {ss : List Smp} (h : SOk ss) (hn : ss.length ≠ 0) {s : Int} (hs : s ≤ spanL ss) : idxV ss s < ss.length := by
  have q := idx_is h s
  rcases Nat.lt_or_ge (idxV ss s) ss.length with r | r
  · exact r
  · have := q.2.1 (ss.length - 1) (by omega)
    rw [span_last hn] at hs; omega
/-- The memory of At. -/
structure AtB (w : World) (A : Array Value) (W : World) : Prop where
  a : W.heap[w.heap.size]? = some (.cells A 26 (0, 0))
  z : W.heap[w.heap.size + 1]? = some (.cells #[.int .i64 0, .int .i64 0, .int .i64 0, .int .i64 0, .int .i64 0, .int .i64 0, .int .i64 0] 28 (0, 0))
  g : w.grownBy W none
theorem AtB.grown {w W W' : World} {A : Array Value} (h : AtB w A W) (hg : W.grownBy W' none) : AtB w A W' := by
  have k : ∀ {B : Nat} {o : Obj}, W.heap[B]? = some o → W'.heap[B]? = some o := fun {B o} h => (hg.block B (Array.getElem?_eq_some_iff.1 h).1 (by simp)).trans h
  exact ⟨k h.a, k h.z, grown_trans h.g hg⟩

set_option maxRecDepth 100000 in
set_option maxHeartbeats 3200000 in
theorem At_any (a : Act) (s : Int) (w : World) (ha : ActAt w a) {x : Smp} {E : Int} (hE : Hid (atO a s = (x, E))) :
    Calls Try.prog 15 #[a.val, .int .i64 s] w fun e w' => e = .returned (.tuple #[smpVal x, .int .i64 E]) ∧ w.grownBy w' none := by
  obtain ⟨ce, hce⟩ : ∃ e, chkE a = e := ⟨_, rfl⟩
  have hv := hE.out
  unfold atO at hv
  rw [hce] at hv
  have HCE := Lib.hid hce; have HA := Lib.hid ha
  by_cases c1 : ce = 0
  · rw [if_pos c1] at hv
    subst c1
    have hok := chk_ok hce
    by_cases c2 : a.ss.length = 0
    · rw [if_pos c2] at hv
      simp only [Prod.mk.injEq] at hv
      obtain ⟨rfl, rfl⟩ := hv
      obtain ⟨nm, sp, st, so, sc, ss, lo, lc, ls, to_, tc, ts⟩ := a
      simp only [Act.val] at *
      have C2 := Lib.hid c2
      clear hE hce hok ha c2
      have M0 : Hid (AtB w #[.string nm, .int .i64 sp, .int .i64 st, .slice so ss.length sc, .slice lo ls.length lc, .slice to_ ts.length tc] ((w.alloc (.cells #[.string nm, .int .i64 sp, .int .i64 st, .slice so ss.length sc, .slice lo ls.length lc, .slice to_ ts.length tc] 26)).alloc (.cells #[.int .i64 0, .int .i64 0, .int .i64 0, .int .i64 0, .int .i64 0, .int .i64 0, .int .i64 0] 28))) := by
        refine ⟨?_, ?_, grown_trans (World.grownBy_alloc _ _ none) (World.grownBy_alloc _ _ none)⟩
        · rw [Below.heap_alloc _ _ _ (by simp)]; exact heap_alloc_new w _
        · have := heap_alloc_new (w.alloc (.cells #[.string nm, .int .i64 sp, .int .i64 st, .slice so ss.length sc, .slice lo ls.length lc, .slice to_ ts.length tc] 26)) (.cells #[.int .i64 0, .int .i64 0, .int .i64 0, .int .i64 0, .int .i64 0, .int .i64 0, .int .i64 0] 28); simpa using this
      go_enter Try.func15, Try.ntmps15
      go_wp2_with fail
      refine (check_any ⟨nm, sp, st, so, sc, ss, lo, lc, ls, to_, tc, ts⟩ _ (HA.out.grown M0.out.g) HCE).mono ?_; rintro e w1 ⟨rfl, hg1⟩
      have M1 := Lib.hid (M0.out.grown hg1)
      clear hg1
      have hz : ((ss.length : Int) == 0) = true := beq_iff_eq.2 (by have := C2.out; omega)
      have z0 := block_cell M1.out.z 0 _ rfl
      have y0 := block_free (k := 0) M1.out.z
      have z1 := block_cell M1.out.z 1 _ rfl
      have y1 := block_free (k := 1) M1.out.z
      have z2 := block_cell M1.out.z 2 _ rfl
      have y2 := block_free (k := 2) M1.out.z
      have z3 := block_cell M1.out.z 3 _ rfl
      have y3 := block_free (k := 3) M1.out.z
      have z4 := block_cell M1.out.z 4 _ rfl
      have y4 := block_free (k := 4) M1.out.z
      have z5 := block_cell M1.out.z 5 _ rfl
      have y5 := block_free (k := 5) M1.out.z
      have z6 := block_cell M1.out.z 6 _ rfl
      have y6 := block_free (k := 6) M1.out.z
      have a0 := block_cell M1.out.a 0 _ rfl
      have a1 := block_cell M1.out.a 1 _ rfl
      have a2 := block_cell M1.out.a 2 _ rfl
      have a3 := block_cell M1.out.a 3 _ rfl
      have a4 := block_cell M1.out.a 4 _ rfl
      have a5 := block_cell M1.out.a 5 _ rfl
      go_wp2_with fail
      refine bodyPost_ret (v := .tuple #[.agg #[.int .i64 0, .int .i64 0, .int .i64 0, .int .i64 0, .int .i64 0, .int .i64 0, .int .i64 0], .int .i64 13]) (by simp [results, Try.results15, go_sem, z0, z1, z2, z3, z4, z5, z6]) rfl ⟨by first | rfl | (unfold smpVal; rfl), ?_⟩
      exact grown_far (grown_far (grown_far (grown_far (grown_far (grown_far (grown_far M1.out.g (by omega) _ _) (by omega) _ _) (by omega) _ _) (by omega) _ _) (by omega) _ _) (by omega) _ _) (by omega) _ _
    · rw [if_neg c2] at hv
      have hl : (a.ss.length : Int) ≤ 20000 := hok.sl
      have HS := Lib.hid (sok_of hok)
      obtain ⟨sv, hsv⟩ : ∃ e, spanL a.ss = e := ⟨_, rfl⟩
      have HSV := Lib.hid hsv
      by_cases c3 : 0 ≤ s ∧ s ≤ spanL a.ss
      · rw [if_pos c3] at hv
        simp only [Prod.mk.injEq] at hv
        obtain ⟨hx, rfl⟩ := hv
        have HX := Lib.hid hx
        have HM := Lib.hid (idx_is HS.out s)
        have hml := idx_lt HS.out c2 c3.2
        have hs0 := c3.1
        have hs1 := c3.2
        rw [hsv] at hs1
        obtain ⟨nm, sp, st, so, sc, ss, lo, lc, ls, to_, tc, ts⟩ := a
        simp only [Act.val] at *
        obtain ⟨b, off, rfl⟩ : ∃ b off, so = some ⟨b, off, none⟩ := by
          have hne : ss ≠ [] := fun h => c2 (by rw [h]; rfl)
          cases so with
          | none => exact absurd (ha.hs.nil rfl) hne
          | some p =>
            obtain ⟨b, off, spot⟩ := p
            have hsp := ha.hs.spot _ rfl hne
            simp only at hsp
            subst hsp
            exact ⟨b, off, rfl⟩
        have hz : ((ss.length : Int) == 0) = false := beq_eq_false_iff_ne.2 (by omega)
        clear hE hce hok ha hx hsv c3
        have M0 : Hid (AtB w #[.string nm, .int .i64 sp, .int .i64 st, .slice (some ⟨b, off, none⟩) ss.length sc, .slice lo ls.length lc, .slice to_ ts.length tc] ((w.alloc (.cells #[.string nm, .int .i64 sp, .int .i64 st, .slice (some ⟨b, off, none⟩) ss.length sc, .slice lo ls.length lc, .slice to_ ts.length tc] 26)).alloc (.cells #[.int .i64 0, .int .i64 0, .int .i64 0, .int .i64 0, .int .i64 0, .int .i64 0, .int .i64 0] 28))) := by
          refine ⟨?_, ?_, grown_trans (World.grownBy_alloc _ _ none) (World.grownBy_alloc _ _ none)⟩
          · rw [Below.heap_alloc _ _ _ (by simp)]; exact heap_alloc_new w _
          · have := heap_alloc_new (w.alloc (.cells #[.string nm, .int .i64 sp, .int .i64 st, .slice (some ⟨b, off, none⟩) ss.length sc, .slice lo ls.length lc, .slice to_ ts.length tc] 26)) (.cells #[.int .i64 0, .int .i64 0, .int .i64 0, .int .i64 0, .int .i64 0, .int .i64 0, .int .i64 0] 28); simpa using this
        go_enter Try.func15, Try.ntmps15
        go_wp2_with fail
        refine (check_any ⟨nm, sp, st, some ⟨b, off, none⟩, sc, ss, lo, lc, ls, to_, tc, ts⟩ _ (HA.out.grown M0.out.g) HCE).mono ?_; rintro e w1 ⟨rfl, hg1⟩
        have M1 := Lib.hid (M0.out.grown hg1)
        clear hg1
        have a0 := block_cell M1.out.a 0 _ rfl
        have a1 := block_cell M1.out.a 1 _ rfl
        have a2 := block_cell M1.out.a 2 _ rfl
        have a3 := block_cell M1.out.a 3 _ rfl
        have a4 := block_cell M1.out.a 4 _ rfl
        have a5 := block_cell M1.out.a 5 _ rfl
        go_wp2_with fail
        refine (span_any ⟨nm, sp, st, some ⟨b, off, none⟩, sc, ss, lo, lc, ls, to_, tc, ts⟩ (by show (ss.length : Int) ≤ _; omega) _ (HA.out.hs.grown M1.out.g) HSV).mono ?_; rintro e w2 ⟨rfl, hg2⟩
        have M2 := Lib.hid (M1.out.grown hg2)
        clear hg2 a0 a1 a2 a3 a4 a5
        go_wp2_with fail
        refine (twithin_yes _ _ _ hs0 hs1 _).mono ?_; rintro e w3 ⟨rfl, rfl⟩
        have M3 := M2
        have a0 := block_cell M3.out.a 0 _ rfl
        have a1 := block_cell M3.out.a 1 _ rfl
        have a2 := block_cell M3.out.a 2 _ rfl
        have a3 := block_cell M3.out.a 3 _ rfl
        have a4 := block_cell M3.out.a 4 _ rfl
        have a5 := block_cell M3.out.a 5 _ rfl
        go_wp2_with fail
        refine (sampleAt_is b off sc ss HS s HM hml hs0 _ (HA.out.hs.grown M3.out.g) HX).mono ?_; rintro e w4 ⟨rfl, hg4⟩
        have M4 := Lib.hid (M3.out.grown hg4)
        clear hg4 a0 a1 a2 a3 a4 a5
        have z0 := block_cell M4.out.z 0 _ rfl
        have y0 := block_free (k := 0) M4.out.z
        have z1 := block_cell M4.out.z 1 _ rfl
        have y1 := block_free (k := 1) M4.out.z
        have z2 := block_cell M4.out.z 2 _ rfl
        have y2 := block_free (k := 2) M4.out.z
        have z3 := block_cell M4.out.z 3 _ rfl
        have y3 := block_free (k := 3) M4.out.z
        have z4 := block_cell M4.out.z 4 _ rfl
        have y4 := block_free (k := 4) M4.out.z
        have z5 := block_cell M4.out.z 5 _ rfl
        have y5 := block_free (k := 5) M4.out.z
        have z6 := block_cell M4.out.z 6 _ rfl
        have y6 := block_free (k := 6) M4.out.z
        unfold smpVal
        go_wp2_with fail
        refine bodyPost_ret (v := .tuple #[.agg #[.int .i64 x.t, .int .i64 x.x, .int .i64 x.y, .int .i64 x.z, .int .i64 x.p, .int .i64 x.q, .int .i64 x.s], .int .i64 0]) (by simp [results, Try.results15, go_sem, z0, z1, z2, z3, z4, z5, z6]) rfl ⟨by first | rfl | (unfold smpVal; rfl), ?_⟩
        exact grown_far (grown_far (grown_far (grown_far (grown_far (grown_far (grown_far M4.out.g (by omega) _ _) (by omega) _ _) (by omega) _ _) (by omega) _ _) (by omega) _ _) (by omega) _ _) (by omega) _ _
      · rw [if_neg c3] at hv
        simp only [Prod.mk.injEq] at hv
        obtain ⟨rfl, rfl⟩ := hv
        have C3 : Hid (s < 0 ∨ sv < s) := by rw [hsv] at c3; show _ ∨ _; omega
        obtain ⟨nm, sp, st, so, sc, ss, lo, lc, ls, to_, tc, ts⟩ := a
        simp only [Act.val] at *
        have hz : ((ss.length : Int) == 0) = false := beq_eq_false_iff_ne.2 (by omega)
        clear hE hce hok ha hsv c3
        have M0 : Hid (AtB w #[.string nm, .int .i64 sp, .int .i64 st, .slice so ss.length sc, .slice lo ls.length lc, .slice to_ ts.length tc] ((w.alloc (.cells #[.string nm, .int .i64 sp, .int .i64 st, .slice so ss.length sc, .slice lo ls.length lc, .slice to_ ts.length tc] 26)).alloc (.cells #[.int .i64 0, .int .i64 0, .int .i64 0, .int .i64 0, .int .i64 0, .int .i64 0, .int .i64 0] 28))) := by
          refine ⟨?_, ?_, grown_trans (World.grownBy_alloc _ _ none) (World.grownBy_alloc _ _ none)⟩
          · rw [Below.heap_alloc _ _ _ (by simp)]; exact heap_alloc_new w _
          · have := heap_alloc_new (w.alloc (.cells #[.string nm, .int .i64 sp, .int .i64 st, .slice so ss.length sc, .slice lo ls.length lc, .slice to_ ts.length tc] 26)) (.cells #[.int .i64 0, .int .i64 0, .int .i64 0, .int .i64 0, .int .i64 0, .int .i64 0, .int .i64 0] 28); simpa using this
        go_enter Try.func15, Try.ntmps15
        go_wp2_with fail
        refine (check_any ⟨nm, sp, st, so, sc, ss, lo, lc, ls, to_, tc, ts⟩ _ (HA.out.grown M0.out.g) HCE).mono ?_; rintro e w1 ⟨rfl, hg1⟩
        have M1 := Lib.hid (M0.out.grown hg1)
        clear hg1
        have a0 := block_cell M1.out.a 0 _ rfl
        have a1 := block_cell M1.out.a 1 _ rfl
        have a2 := block_cell M1.out.a 2 _ rfl
        have a3 := block_cell M1.out.a 3 _ rfl
        have a4 := block_cell M1.out.a 4 _ rfl
        have a5 := block_cell M1.out.a 5 _ rfl
        go_wp2_with fail
        refine (span_any ⟨nm, sp, st, so, sc, ss, lo, lc, ls, to_, tc, ts⟩ (by show (ss.length : Int) ≤ _; omega) _ (HA.out.hs.grown M1.out.g) HSV).mono ?_; rintro e w2 ⟨rfl, hg2⟩
        have M2 := Lib.hid (M1.out.grown hg2)
        clear hg2 a0 a1 a2 a3 a4 a5
        go_wp2_with fail
        refine (twithin_no _ _ _ C3.out _).mono ?_; rintro e w3 ⟨rfl, rfl⟩
        have z0 := block_cell M2.out.z 0 _ rfl
        have y0 := block_free (k := 0) M2.out.z
        have z1 := block_cell M2.out.z 1 _ rfl
        have y1 := block_free (k := 1) M2.out.z
        have z2 := block_cell M2.out.z 2 _ rfl
        have y2 := block_free (k := 2) M2.out.z
        have z3 := block_cell M2.out.z 3 _ rfl
        have y3 := block_free (k := 3) M2.out.z
        have z4 := block_cell M2.out.z 4 _ rfl
        have y4 := block_free (k := 4) M2.out.z
        have z5 := block_cell M2.out.z 5 _ rfl
        have y5 := block_free (k := 5) M2.out.z
        have z6 := block_cell M2.out.z 6 _ rfl
        have y6 := block_free (k := 6) M2.out.z
        go_wp2_with fail
        refine bodyPost_ret (v := .tuple #[.agg #[.int .i64 0, .int .i64 0, .int .i64 0, .int .i64 0, .int .i64 0, .int .i64 0, .int .i64 0], .int .i64 9]) (by simp [results, Try.results15, go_sem, z0, z1, z2, z3, z4, z5, z6]) rfl ⟨by first | rfl | (unfold smpVal; rfl), ?_⟩
        exact grown_far (grown_far (grown_far (grown_far (grown_far (grown_far (grown_far M2.out.g (by omega) _ _) (by omega) _ _) (by omega) _ _) (by omega) _ _) (by omega) _ _) (by omega) _ _) (by omega) _ _
  · rw [if_neg c1] at hv
    simp only [Prod.mk.injEq] at hv
    obtain ⟨rfl, rfl⟩ := hv
    have hne : (ce != 0) = true := by simpa using c1
    obtain ⟨nm, sp, st, so, sc, ss, lo, lc, ls, to_, tc, ts⟩ := a
    simp only [Act.val] at *
    clear hE hce ha c1
    have M0 : Hid (AtB w #[.string nm, .int .i64 sp, .int .i64 st, .slice so ss.length sc, .slice lo ls.length lc, .slice to_ ts.length tc] ((w.alloc (.cells #[.string nm, .int .i64 sp, .int .i64 st, .slice so ss.length sc, .slice lo ls.length lc, .slice to_ ts.length tc] 26)).alloc (.cells #[.int .i64 0, .int .i64 0, .int .i64 0, .int .i64 0, .int .i64 0, .int .i64 0, .int .i64 0] 28))) := by
      refine ⟨?_, ?_, grown_trans (World.grownBy_alloc _ _ none) (World.grownBy_alloc _ _ none)⟩
      · rw [Below.heap_alloc _ _ _ (by simp)]; exact heap_alloc_new w _
      · have := heap_alloc_new (w.alloc (.cells #[.string nm, .int .i64 sp, .int .i64 st, .slice so ss.length sc, .slice lo ls.length lc, .slice to_ ts.length tc] 26)) (.cells #[.int .i64 0, .int .i64 0, .int .i64 0, .int .i64 0, .int .i64 0, .int .i64 0, .int .i64 0] 28); simpa using this
    go_enter Try.func15, Try.ntmps15
    go_wp2_with fail
    refine (check_any ⟨nm, sp, st, so, sc, ss, lo, lc, ls, to_, tc, ts⟩ _ (HA.out.grown M0.out.g) HCE).mono ?_; rintro e w1 ⟨rfl, hg1⟩
    have M1 := Lib.hid (M0.out.grown hg1)
    clear hg1
    have z0 := block_cell M1.out.z 0 _ rfl
    have y0 := block_free (k := 0) M1.out.z
    have z1 := block_cell M1.out.z 1 _ rfl
    have y1 := block_free (k := 1) M1.out.z
    have z2 := block_cell M1.out.z 2 _ rfl
    have y2 := block_free (k := 2) M1.out.z
    have z3 := block_cell M1.out.z 3 _ rfl
    have y3 := block_free (k := 3) M1.out.z
    have z4 := block_cell M1.out.z 4 _ rfl
    have y4 := block_free (k := 4) M1.out.z
    have z5 := block_cell M1.out.z 5 _ rfl
    have y5 := block_free (k := 5) M1.out.z
    have z6 := block_cell M1.out.z 6 _ rfl
    have y6 := block_free (k := 6) M1.out.z
    go_wp2_with fail
    refine bodyPost_ret (v := .tuple #[.agg #[.int .i64 0, .int .i64 0, .int .i64 0, .int .i64 0, .int .i64 0, .int .i64 0, .int .i64 0], .int .i64 ce]) (by simp [results, Try.results15, go_sem, z0, z1, z2, z3, z4, z5, z6]) rfl ⟨by first | rfl | (unfold smpVal; rfl), ?_⟩
    exact grown_far (grown_far (grown_far (grown_far (grown_far (grown_far (grown_far M1.out.g (by omega) _ _) (by omega) _ _) (by omega) _ _) (by omega) _ _) (by omega) _ _) (by omega) _ _) (by omega) _ _

set_option maxRecDepth 100000 in
set_option maxHeartbeats 3200000 in
theorem rAt_any (a : Act) (s : Int) (w : World) (ha : ActAt w a) {x : Smp} {E : Int} (hE : Hid (atO a s = (x, E))) :
    Calls Try.prog 16 #[a.val, .int .i64 s] w fun e w' => e = .returned (.tuple #[smpVal x, .int .i64 E]) ∧ w.grownBy w' none := by
  obtain ⟨ce, hce⟩ : ∃ e, chkE a = e := ⟨_, rfl⟩
  have hv := hE.out
  unfold atO at hv
  rw [hce] at hv
  have HCE := Lib.hid hce; have HA := Lib.hid ha
  by_cases c1 : ce = 0
  · rw [if_pos c1] at hv
    subst c1
    have hok := chk_ok hce
    by_cases c2 : a.ss.length = 0
    · rw [if_pos c2] at hv
      simp only [Prod.mk.injEq] at hv
      obtain ⟨rfl, rfl⟩ := hv
      obtain ⟨nm, sp, st, so, sc, ss, lo, lc, ls, to_, tc, ts⟩ := a
      simp only [Act.val] at *
      have C2 := Lib.hid c2
      clear hE hce hok ha c2
      have M0 : Hid (AtB w #[.string nm, .int .i64 sp, .int .i64 st, .slice so ss.length sc, .slice lo ls.length lc, .slice to_ ts.length tc] ((w.alloc (.cells #[.string nm, .int .i64 sp, .int .i64 st, .slice so ss.length sc, .slice lo ls.length lc, .slice to_ ts.length tc] 26)).alloc (.cells #[.int .i64 0, .int .i64 0, .int .i64 0, .int .i64 0, .int .i64 0, .int .i64 0, .int .i64 0] 28))) := by
        refine ⟨?_, ?_, grown_trans (World.grownBy_alloc _ _ none) (World.grownBy_alloc _ _ none)⟩
        · rw [Below.heap_alloc _ _ _ (by simp)]; exact heap_alloc_new w _
        · have := heap_alloc_new (w.alloc (.cells #[.string nm, .int .i64 sp, .int .i64 st, .slice so ss.length sc, .slice lo ls.length lc, .slice to_ ts.length tc] 26)) (.cells #[.int .i64 0, .int .i64 0, .int .i64 0, .int .i64 0, .int .i64 0, .int .i64 0, .int .i64 0] 28); simpa using this
      go_enter Try.func16, Try.ntmps16
      go_wp2_with fail
      refine (rcheck_any ⟨nm, sp, st, so, sc, ss, lo, lc, ls, to_, tc, ts⟩ _ (HA.out.grown M0.out.g) HCE).mono ?_; rintro e w1 ⟨rfl, hg1⟩
      have M1 := Lib.hid (M0.out.grown hg1)
      clear hg1
      have hz : ((ss.length : Int) == 0) = true := beq_iff_eq.2 (by have := C2.out; omega)
      have z0 := block_cell M1.out.z 0 _ rfl
      have y0 := block_free (k := 0) M1.out.z
      have z1 := block_cell M1.out.z 1 _ rfl
      have y1 := block_free (k := 1) M1.out.z
      have z2 := block_cell M1.out.z 2 _ rfl
      have y2 := block_free (k := 2) M1.out.z
      have z3 := block_cell M1.out.z 3 _ rfl
      have y3 := block_free (k := 3) M1.out.z
      have z4 := block_cell M1.out.z 4 _ rfl
      have y4 := block_free (k := 4) M1.out.z
      have z5 := block_cell M1.out.z 5 _ rfl
      have y5 := block_free (k := 5) M1.out.z
      have z6 := block_cell M1.out.z 6 _ rfl
      have y6 := block_free (k := 6) M1.out.z
      have a0 := block_cell M1.out.a 0 _ rfl
      have a1 := block_cell M1.out.a 1 _ rfl
      have a2 := block_cell M1.out.a 2 _ rfl
      have a3 := block_cell M1.out.a 3 _ rfl
      have a4 := block_cell M1.out.a 4 _ rfl
      have a5 := block_cell M1.out.a 5 _ rfl
      go_wp2_with fail
      refine bodyPost_ret (v := .tuple #[.agg #[.int .i64 0, .int .i64 0, .int .i64 0, .int .i64 0, .int .i64 0, .int .i64 0, .int .i64 0], .int .i64 13]) (by simp [results, Try.results16, go_sem, z0, z1, z2, z3, z4, z5, z6]) rfl ⟨by first | rfl | (unfold smpVal; rfl), ?_⟩
      exact grown_far (grown_far (grown_far (grown_far (grown_far (grown_far (grown_far M1.out.g (by omega) _ _) (by omega) _ _) (by omega) _ _) (by omega) _ _) (by omega) _ _) (by omega) _ _) (by omega) _ _
    · rw [if_neg c2] at hv
      have hl : (a.ss.length : Int) ≤ 20000 := hok.sl
      have HS := Lib.hid (sok_of hok)
      obtain ⟨sv, hsv⟩ : ∃ e, spanL a.ss = e := ⟨_, rfl⟩
      have HSV := Lib.hid hsv
      by_cases c3 : 0 ≤ s ∧ s ≤ spanL a.ss
      · rw [if_pos c3] at hv
        simp only [Prod.mk.injEq] at hv
        obtain ⟨hx, rfl⟩ := hv
        have HX := Lib.hid hx
        have HM := Lib.hid (idx_is HS.out s)
        have hml := idx_lt HS.out c2 c3.2
        have hs0 := c3.1
        have hs1 := c3.2
        rw [hsv] at hs1
        obtain ⟨nm, sp, st, so, sc, ss, lo, lc, ls, to_, tc, ts⟩ := a
        simp only [Act.val] at *
        obtain ⟨b, off, rfl⟩ : ∃ b off, so = some ⟨b, off, none⟩ := by
          have hne : ss ≠ [] := fun h => c2 (by rw [h]; rfl)
          cases so with
          | none => exact absurd (ha.hs.nil rfl) hne
          | some p =>
            obtain ⟨b, off, spot⟩ := p
            have hsp := ha.hs.spot _ rfl hne
            simp only at hsp
            subst hsp
            exact ⟨b, off, rfl⟩
        have hz : ((ss.length : Int) == 0) = false := beq_eq_false_iff_ne.2 (by omega)
        clear hE hce hok ha hx hsv c3
        have M0 : Hid (AtB w #[.string nm, .int .i64 sp, .int .i64 st, .slice (some ⟨b, off, none⟩) ss.length sc, .slice lo ls.length lc, .slice to_ ts.length tc] ((w.alloc (.cells #[.string nm, .int .i64 sp, .int .i64 st, .slice (some ⟨b, off, none⟩) ss.length sc, .slice lo ls.length lc, .slice to_ ts.length tc] 26)).alloc (.cells #[.int .i64 0, .int .i64 0, .int .i64 0, .int .i64 0, .int .i64 0, .int .i64 0, .int .i64 0] 28))) := by
          refine ⟨?_, ?_, grown_trans (World.grownBy_alloc _ _ none) (World.grownBy_alloc _ _ none)⟩
          · rw [Below.heap_alloc _ _ _ (by simp)]; exact heap_alloc_new w _
          · have := heap_alloc_new (w.alloc (.cells #[.string nm, .int .i64 sp, .int .i64 st, .slice (some ⟨b, off, none⟩) ss.length sc, .slice lo ls.length lc, .slice to_ ts.length tc] 26)) (.cells #[.int .i64 0, .int .i64 0, .int .i64 0, .int .i64 0, .int .i64 0, .int .i64 0, .int .i64 0] 28); simpa using this
        go_enter Try.func16, Try.ntmps16
        go_wp2_with fail
        refine (rcheck_any ⟨nm, sp, st, some ⟨b, off, none⟩, sc, ss, lo, lc, ls, to_, tc, ts⟩ _ (HA.out.grown M0.out.g) HCE).mono ?_; rintro e w1 ⟨rfl, hg1⟩
        have M1 := Lib.hid (M0.out.grown hg1)
        clear hg1
        have a0 := block_cell M1.out.a 0 _ rfl
        have a1 := block_cell M1.out.a 1 _ rfl
        have a2 := block_cell M1.out.a 2 _ rfl
        have a3 := block_cell M1.out.a 3 _ rfl
        have a4 := block_cell M1.out.a 4 _ rfl
        have a5 := block_cell M1.out.a 5 _ rfl
        go_wp2_with fail
        refine (rspan_any ⟨nm, sp, st, some ⟨b, off, none⟩, sc, ss, lo, lc, ls, to_, tc, ts⟩ (by show (ss.length : Int) ≤ _; omega) _ (HA.out.hs.grown M1.out.g) HSV).mono ?_; rintro e w2 ⟨rfl, hg2⟩
        have M2 := Lib.hid (M1.out.grown hg2)
        clear hg2 a0 a1 a2 a3 a4 a5
        go_wp2_with fail
        refine (rout_no _ _ _ hs0 hs1 _).mono ?_; rintro e w3 ⟨rfl, rfl⟩
        have M3 := M2
        have a0 := block_cell M3.out.a 0 _ rfl
        have a1 := block_cell M3.out.a 1 _ rfl
        have a2 := block_cell M3.out.a 2 _ rfl
        have a3 := block_cell M3.out.a 3 _ rfl
        have a4 := block_cell M3.out.a 4 _ rfl
        have a5 := block_cell M3.out.a 5 _ rfl
        go_wp2_with fail
        refine (where_is nm sp st b off sc ss lo lc ls to_ tc ts HS s HM hml hs0 _ (HA.out.hs.grown M3.out.g) HX).mono ?_; rintro e w4 ⟨rfl, hg4⟩
        have M4 := Lib.hid (M3.out.grown hg4)
        clear hg4 a0 a1 a2 a3 a4 a5
        have z0 := block_cell M4.out.z 0 _ rfl
        have y0 := block_free (k := 0) M4.out.z
        have z1 := block_cell M4.out.z 1 _ rfl
        have y1 := block_free (k := 1) M4.out.z
        have z2 := block_cell M4.out.z 2 _ rfl
        have y2 := block_free (k := 2) M4.out.z
        have z3 := block_cell M4.out.z 3 _ rfl
        have y3 := block_free (k := 3) M4.out.z
        have z4 := block_cell M4.out.z 4 _ rfl
        have y4 := block_free (k := 4) M4.out.z
        have z5 := block_cell M4.out.z 5 _ rfl
        have y5 := block_free (k := 5) M4.out.z
        have z6 := block_cell M4.out.z 6 _ rfl
        have y6 := block_free (k := 6) M4.out.z
        unfold smpVal
        go_wp2_with fail
        refine bodyPost_ret (v := .tuple #[.agg #[.int .i64 x.t, .int .i64 x.x, .int .i64 x.y, .int .i64 x.z, .int .i64 x.p, .int .i64 x.q, .int .i64 x.s], .int .i64 0]) (by simp [results, Try.results16, go_sem, z0, z1, z2, z3, z4, z5, z6]) rfl ⟨by first | rfl | (unfold smpVal; rfl), ?_⟩
        exact grown_far (grown_far (grown_far (grown_far (grown_far (grown_far (grown_far M4.out.g (by omega) _ _) (by omega) _ _) (by omega) _ _) (by omega) _ _) (by omega) _ _) (by omega) _ _) (by omega) _ _
      · rw [if_neg c3] at hv
        simp only [Prod.mk.injEq] at hv
        obtain ⟨rfl, rfl⟩ := hv
        have C3 : Hid (s < 0 ∨ sv < s) := by rw [hsv] at c3; show _ ∨ _; omega
        obtain ⟨nm, sp, st, so, sc, ss, lo, lc, ls, to_, tc, ts⟩ := a
        simp only [Act.val] at *
        have hz : ((ss.length : Int) == 0) = false := beq_eq_false_iff_ne.2 (by omega)
        clear hE hce hok ha hsv c3
        have M0 : Hid (AtB w #[.string nm, .int .i64 sp, .int .i64 st, .slice so ss.length sc, .slice lo ls.length lc, .slice to_ ts.length tc] ((w.alloc (.cells #[.string nm, .int .i64 sp, .int .i64 st, .slice so ss.length sc, .slice lo ls.length lc, .slice to_ ts.length tc] 26)).alloc (.cells #[.int .i64 0, .int .i64 0, .int .i64 0, .int .i64 0, .int .i64 0, .int .i64 0, .int .i64 0] 28))) := by
          refine ⟨?_, ?_, grown_trans (World.grownBy_alloc _ _ none) (World.grownBy_alloc _ _ none)⟩
          · rw [Below.heap_alloc _ _ _ (by simp)]; exact heap_alloc_new w _
          · have := heap_alloc_new (w.alloc (.cells #[.string nm, .int .i64 sp, .int .i64 st, .slice so ss.length sc, .slice lo ls.length lc, .slice to_ ts.length tc] 26)) (.cells #[.int .i64 0, .int .i64 0, .int .i64 0, .int .i64 0, .int .i64 0, .int .i64 0, .int .i64 0] 28); simpa using this
        go_enter Try.func16, Try.ntmps16
        go_wp2_with fail
        refine (rcheck_any ⟨nm, sp, st, so, sc, ss, lo, lc, ls, to_, tc, ts⟩ _ (HA.out.grown M0.out.g) HCE).mono ?_; rintro e w1 ⟨rfl, hg1⟩
        have M1 := Lib.hid (M0.out.grown hg1)
        clear hg1
        have a0 := block_cell M1.out.a 0 _ rfl
        have a1 := block_cell M1.out.a 1 _ rfl
        have a2 := block_cell M1.out.a 2 _ rfl
        have a3 := block_cell M1.out.a 3 _ rfl
        have a4 := block_cell M1.out.a 4 _ rfl
        have a5 := block_cell M1.out.a 5 _ rfl
        go_wp2_with fail
        refine (rspan_any ⟨nm, sp, st, so, sc, ss, lo, lc, ls, to_, tc, ts⟩ (by show (ss.length : Int) ≤ _; omega) _ (HA.out.hs.grown M1.out.g) HSV).mono ?_; rintro e w2 ⟨rfl, hg2⟩
        have M2 := Lib.hid (M1.out.grown hg2)
        clear hg2 a0 a1 a2 a3 a4 a5
        go_wp2_with fail
        refine (rout_yes _ _ _ C3.out _).mono ?_; rintro e w3 ⟨rfl, rfl⟩
        have z0 := block_cell M2.out.z 0 _ rfl
        have y0 := block_free (k := 0) M2.out.z
        have z1 := block_cell M2.out.z 1 _ rfl
        have y1 := block_free (k := 1) M2.out.z
        have z2 := block_cell M2.out.z 2 _ rfl
        have y2 := block_free (k := 2) M2.out.z
        have z3 := block_cell M2.out.z 3 _ rfl
        have y3 := block_free (k := 3) M2.out.z
        have z4 := block_cell M2.out.z 4 _ rfl
        have y4 := block_free (k := 4) M2.out.z
        have z5 := block_cell M2.out.z 5 _ rfl
        have y5 := block_free (k := 5) M2.out.z
        have z6 := block_cell M2.out.z 6 _ rfl
        have y6 := block_free (k := 6) M2.out.z
        go_wp2_with fail
        refine bodyPost_ret (v := .tuple #[.agg #[.int .i64 0, .int .i64 0, .int .i64 0, .int .i64 0, .int .i64 0, .int .i64 0, .int .i64 0], .int .i64 9]) (by simp [results, Try.results16, go_sem, z0, z1, z2, z3, z4, z5, z6]) rfl ⟨by first | rfl | (unfold smpVal; rfl), ?_⟩
        exact grown_far (grown_far (grown_far (grown_far (grown_far (grown_far (grown_far M2.out.g (by omega) _ _) (by omega) _ _) (by omega) _ _) (by omega) _ _) (by omega) _ _) (by omega) _ _) (by omega) _ _
  · rw [if_neg c1] at hv
    simp only [Prod.mk.injEq] at hv
    obtain ⟨rfl, rfl⟩ := hv
    have hne : (ce != 0) = true := by simpa using c1
    obtain ⟨nm, sp, st, so, sc, ss, lo, lc, ls, to_, tc, ts⟩ := a
    simp only [Act.val] at *
    clear hE hce ha c1
    have M0 : Hid (AtB w #[.string nm, .int .i64 sp, .int .i64 st, .slice so ss.length sc, .slice lo ls.length lc, .slice to_ ts.length tc] ((w.alloc (.cells #[.string nm, .int .i64 sp, .int .i64 st, .slice so ss.length sc, .slice lo ls.length lc, .slice to_ ts.length tc] 26)).alloc (.cells #[.int .i64 0, .int .i64 0, .int .i64 0, .int .i64 0, .int .i64 0, .int .i64 0, .int .i64 0] 28))) := by
      refine ⟨?_, ?_, grown_trans (World.grownBy_alloc _ _ none) (World.grownBy_alloc _ _ none)⟩
      · rw [Below.heap_alloc _ _ _ (by simp)]; exact heap_alloc_new w _
      · have := heap_alloc_new (w.alloc (.cells #[.string nm, .int .i64 sp, .int .i64 st, .slice so ss.length sc, .slice lo ls.length lc, .slice to_ ts.length tc] 26)) (.cells #[.int .i64 0, .int .i64 0, .int .i64 0, .int .i64 0, .int .i64 0, .int .i64 0, .int .i64 0] 28); simpa using this
    go_enter Try.func16, Try.ntmps16
    go_wp2_with fail
    refine (rcheck_any ⟨nm, sp, st, so, sc, ss, lo, lc, ls, to_, tc, ts⟩ _ (HA.out.grown M0.out.g) HCE).mono ?_; rintro e w1 ⟨rfl, hg1⟩
    have M1 := Lib.hid (M0.out.grown hg1)
    clear hg1
    have z0 := block_cell M1.out.z 0 _ rfl
    have y0 := block_free (k := 0) M1.out.z
    have z1 := block_cell M1.out.z 1 _ rfl
    have y1 := block_free (k := 1) M1.out.z
    have z2 := block_cell M1.out.z 2 _ rfl
    have y2 := block_free (k := 2) M1.out.z
    have z3 := block_cell M1.out.z 3 _ rfl
    have y3 := block_free (k := 3) M1.out.z
    have z4 := block_cell M1.out.z 4 _ rfl
    have y4 := block_free (k := 4) M1.out.z
    have z5 := block_cell M1.out.z 5 _ rfl
    have y5 := block_free (k := 5) M1.out.z
    have z6 := block_cell M1.out.z 6 _ rfl
    have y6 := block_free (k := 6) M1.out.z
    go_wp2_with fail
    refine bodyPost_ret (v := .tuple #[.agg #[.int .i64 0, .int .i64 0, .int .i64 0, .int .i64 0, .int .i64 0, .int .i64 0, .int .i64 0], .int .i64 ce]) (by simp [results, Try.results16, go_sem, z0, z1, z2, z3, z4, z5, z6]) rfl ⟨by first | rfl | (unfold smpVal; rfl), ?_⟩
    exact grown_far (grown_far (grown_far (grown_far (grown_far (grown_far (grown_far M1.out.g (by omega) _ _) (by omega) _ _) (by omega) _ _) (by omega) _ _) (by omega) _ _) (by omega) _ _) (by omega) _ _

end Go.Proofs.Ytgkhhfojioepgaa
namespace Go.Proofs.Ytgkhhfojioepgaa
open Go.RowKit
set_option linter.unusedSimpArgs false
set_option linter.unusedVariables false

/-- Where somebody was at a second. -/
noncomputable def sampV (ss : List Smp) (s : Int) : Smp := atV ss s (idxV ss s)
def cntR (sp step : Int) : Nat := ((sp + step - 1) / step).toNat
noncomputable def resK (ss : List Smp) (step : Int) (k : Nat) : List Smp := (List.range k).map fun (j : Nat) => sampV ss ((j : Int) * step)
theorem resK_zero (ss : List Smp) (step : Int) : resK ss step 0 = [] := rfl
theorem resK_succ (ss : List Smp) (step : Int) (k : Nat) : resK ss step (k + 1) = resK ss step k ++ [sampV ss ((k : Int) * step)] := by
  unfold resK; rw [List.range_succ, List.map_append]; rfl
theorem resK_len (ss : List Smp) (step : Int) (k : Nat) : (resK ss step k).length = k := by unfold resK; simp
theorem cntR_val {sp step : Int} (h0 : 0 ≤ sp) (h1 : 1 ≤ step) : (cntR sp step : Int) = (sp + step - 1) / step := by
  have : 0 ≤ (sp + step - 1) / step := Int.ediv_nonneg (by omega) (by omega)
  unfold cntR; omega
theorem cntR_lt {sp step : Int} (h0 : 0 ≤ sp) (h1 : 1 ≤ step) (k : Nat) : (k : Int) * step < sp ↔ k < cntR sp step := by
  have hv := cntR_val h0 h1
  have h := Int.le_ediv_iff_mul_le (a := (k : Int) + 1) (b := sp + step - 1) (c := step) (by omega)
  rw [← hv] at h
  have e : ((k : Int) + 1) * step = (k : Int) * step + step := by rw [Int.add_mul, Int.one_mul]
  rw [e] at h
  constructor
  · intro q; have := h.2 (by omega); omega
  · intro q; have := h.1 (by omega); omega
theorem span_bd2 {ss : List Smp} (h : SOk ss) : 0 ≤ spanL ss ∧ spanL ss ≤ 1000000 := by
  by_cases h0 : ss.length = 0
  · have e : ss = [] := List.eq_nil_of_length_eq_zero h0
    subst e; exact ⟨Int.le_refl _, by decide⟩
  · rw [span_last h0]
    have := h.inn (ss.length - 1) (by omega)
    omega
noncomputable def resL (ss : List Smp) (step : Int) : List Smp := resK ss step (cntR (spanL ss) step) ++ [sampV ss (spanL ss)]
theorem resL_len (ss : List Smp) (step : Int) : (resL ss step).length = cntR (spanL ss) step + 1 := by unfold resL; simp [resK_len]
open Classical in
/-- What Resample returns: the content of an activity, and an error. -/
noncomputable def resO (a : Act) (step : Int) : Act × Int :=
  if chkE a = 0 then
    if 1 ≤ step ∧ step ≤ 1000000 then
      if (cntR (spanL a.ss) step : Int) + 1 ≤ 20000 then
        if a.ss.length = 0 then (a, 0) else ({ a with ss := resL a.ss step }, 0)
      else (act0, 3)
    else (act0, 9)
  else (act0, chkE a)
end Go.Proofs.Ytgkhhfojioepgaa
namespace Go.Proofs.Ytgkhhfojioepgaa
open Go.RowKit
set_option linter.unusedSimpArgs false
set_option linter.unusedVariables false

theorem block_at {W W' : World} {row : Option Nat} {b : Nat} {o : Obj} (h : W.heap[b]? = some o) (hg : W.grownBy W' row) (hne : some b ≠ row) : W'.heap[b]? = some o := (hg.block b (Array.getElem?_eq_some_iff.1 h).1 hne).trans h

/-- Three boxes of an activity. -/
structure RsB (w : World) (A Z : Array Value) (B : Nat) (C : Array Value) (W : World) : Prop where
  c : ClB w A Z W
  b : W.heap[B]? = some (.cells C 26 (0, 0))
  lt : w.heap.size + 1 < B
section
variable {w W W' : World} {A Z C : Array Value} {B : Nat}
theorem RsB.grown (h : RsB w A Z B C W) (hg : W.grownBy W' none) : RsB w A Z B C W' := ⟨h.c.grown hg, block_at h.b hg (by simp), h.lt⟩
theorem RsB.kept (h : RsB w A Z B C W) {row : Option Nat} (hg : W.grownBy W' row) (hr : ∀ r, row = some r → B < r) : RsB w A Z B C W' := by
  have hl := h.lt
  have n : ∀ b, b ≤ B → some b ≠ row := fun b hb e => by have := hr b e.symm; omega
  refine ⟨⟨block_at h.c.a hg (n _ (by omega)), block_at h.c.z hg (n _ (by omega)), ?_⟩, block_at h.b hg (n _ (Nat.le_refl _)), h.lt⟩
  exact ⟨hg.os.trans h.c.g.os, hg.tape.trans h.c.g.tape, hg.output.trans h.c.g.output, Nat.le_trans h.c.g.size hg.size, fun k hk _ => by
    rw [hg.block k (Nat.lt_of_lt_of_le hk h.c.g.size) (n k (by omega))]; exact h.c.g.block k hk (by simp)⟩
theorem RsB.setB (h : RsB w A Z B C W) (k : Nat) (v : Value) : RsB w A Z B (C.setIfInBounds k v) (W.setCell ⟨B, k, none⟩ v) := by
  have hl := h.lt
  refine ⟨⟨?_, ?_, grown_far h.c.g (by omega) k v⟩, block_set h.b v, h.lt⟩
  · rw [Below.heap_setCell _ _ _ _ (by show _ ≠ B; omega)]; exact h.c.a
  · rw [Below.heap_setCell _ _ _ _ (by show _ ≠ B; omega)]; exact h.c.z
theorem RsB.setZ (h : RsB w A Z B C W) (k : Nat) (v : Value) : RsB w A (Z.setIfInBounds k v) B C (W.setCell ⟨w.heap.size + 1, k, none⟩ v) := by
  have hl := h.lt
  exact ⟨h.c.setZ k v, by rw [Below.heap_setCell _ _ _ _ (by show B ≠ w.heap.size + 1; omega)]; exact h.b, h.lt⟩
theorem RsB.bsz (h : RsB w A Z B C W) : B < W.heap.size := lt_of_block h.b
end
theorem own_setR {w : World} {base e size n : Nat} {v : Value} {xs : List Value} (h : w.ownsRow base e size v n xs) {B : Nat} (hB : B < base) (i : Nat) (u : Value) : (w.setCell ⟨B, i, none⟩ u).ownsRow base e size v n xs := by
  have hlt := h.lt
  refine h.kept (row := some B) ⟨rfl, rfl, rfl, by simp [World.setCell], fun k hk hne => Below.heap_setCell _ _ _ _ (fun e => hne (by rw [e]))⟩ ?_
  cases hv : v.ownBlock with
  | none => exact .inl rfl
  | some r => exact .inr (fun e => by have := (hlt r hv).1; injection e with e; omega)
end Go.Proofs.Ytgkhhfojioepgaa
namespace Go.Proofs.Ytgkhhfojioepgaa
open Go.RowKit
set_option linter.unusedSimpArgs false
set_option linter.unusedVariables false

def mvS (d : Int) (x : Smp) : Smp := { x with t := x.t + d }
def lapM (by_ sp : Int) (x : LapV) : Option LapV := if max (x.fr - by_) 0 < min (x.to_ - by_) sp then some ⟨max (x.fr - by_) 0, min (x.to_ - by_) sp, x.name⟩ else none
def lapsM (by_ sp : Int) (l : List LapV) : List LapV := l.filterMap (lapM by_ sp)
theorem lapM_ref (by_ sp : Int) (x : LapV) : (if min (max (x.fr - by_) 0) sp < min (max (x.to_ - by_) 0) sp then some (⟨min (max (x.fr - by_) 0) sp, min (max (x.to_ - by_) 0) sp, x.name⟩ : LapV) else none) = lapM by_ sp x := by
  unfold lapM
  by_cases h : max (x.fr - by_) 0 < min (x.to_ - by_) sp
  · rw [if_pos h, if_pos (by omega)]
    have e1 : min (max (x.fr - by_) 0) sp = max (x.fr - by_) 0 := by omega
    have e2 : min (max (x.to_ - by_) 0) sp = min (x.to_ - by_) sp := by omega
    rw [e1, e2]
  · rw [if_neg h, if_neg (by omega)]
theorem lapsM_snoc (by_ sp : Int) (l : List LapV) (x : LapV) : lapsM by_ sp (l ++ [x]) = lapsM by_ sp l ++ (lapM by_ sp x).toList := by
  unfold lapsM
  rw [List.filterMap_append]
  congr 1
theorem lapsM_take {by_ sp : Int} {l : List LapV} {k : Nat} (h : k < l.length) : lapsM by_ sp (l.take (k + 1)) = lapsM by_ sp (l.take k) ++ (lapM by_ sp l[k]).toList := by
  rw [List.take_succ_eq_append_getElem h, lapsM_snoc]
theorem lapsM_le (by_ sp : Int) (l : List LapV) : (lapsM by_ sp l).length ≤ l.length := List.length_filterMap_le _ _
theorem lapsM_name {by_ sp : Int} {l : List LapV} {n : Nat} (h : ∀ i (h : i < l.length), l[i].name.size ≤ n) : ∀ i (h : i < (lapsM by_ sp l).length), (lapsM by_ sp l)[i].name.size ≤ n := fun i hi => by
  have hm : (lapsM by_ sp l)[i] ∈ lapsM by_ sp l := List.getElem_mem hi
  obtain ⟨x, hx, he⟩ := List.mem_filterMap.1 hm
  obtain ⟨j, hj, hjx⟩ := List.getElem_of_mem hx
  have hn : (lapsM by_ sp l)[i].name = x.name := by
    unfold lapM at he
    split at he
    · injection he with he; rw [← he]
    · cases he
  rw [hn, ← hjx]; exact h j hj
def firstT (l : List Smp) : Int := match l with | [] => 0 | x :: _ => x.t
/-- The part of an activity with other samples, of which the first is moved to 0. -/
def partV (a : Act) (d : Int) (L : List Smp) : Act := { a with start := a.start + d, ss := L.map (mvS (-d)), ls := lapsM d (spanL (L.map (mvS (-d)))) a.ls }

theorem laps_in_bd {sp : Int} : ∀ (l : List LapV) (e : Int), lapsE sp e l = 0 → ∀ x ∈ l, 0 ≤ x.fr ∧ x.fr < x.to_ ∧ x.to_ ≤ sp
  | [], _, _, x, hx => by simp at hx
  | y :: r, e, h, x, hx => by
    unfold lapsE at h
    split at h
    · omega
    · rename_i h1
      split at h
      · omega
      · split at h
        · rcases List.mem_cons.1 hx with rfl | hx
          · omega
          · exact laps_in_bd r _ h x hx
        · omega

/-- The first k samples are moved. -/
def mvK (L : List Smp) (d : Int) (k : Nat) : List Smp := (L.take k).map (mvS d) ++ L.drop k
theorem mvK_zero (L : List Smp) (d : Int) : mvK L d 0 = L := by unfold mvK; simp
theorem mvK_len (L : List Smp) (d : Int) (k : Nat) : (mvK L d k).length = L.length := by
  unfold mvK; simp; omega
theorem mvK_all (L : List Smp) (d : Int) : mvK L d L.length = L.map (mvS d) := by unfold mvK; simp
theorem mvK_at {L : List Smp} {d : Int} {k : Nat} (h : k < L.length) : (mvK L d k)[k]'(by rw [mvK_len]; exact h) = L[k] := by
  unfold mvK
  rw [List.getElem_append_right (by simp; omega)]
  simp [Nat.min_eq_left (Nat.le_of_lt h)]
theorem mvK_succ {L : List Smp} {d : Int} {k : Nat} (h : k < L.length) : mvK L d (k + 1) = (mvK L d k).set k (mvS d L[k]) := by
  unfold mvK
  rw [List.set_append_right _ _ (by simp; omega)]
  have e : k - (List.map (mvS d) (List.take k L)).length = 0 := by simp; omega
  rw [e, List.drop_eq_getElem_cons h, List.set_cons_zero, List.take_succ_eq_append_getElem h, List.map_append]
  simp
theorem smpRw_set : ∀ (L : List Smp) (k : Nat) (y : Int) (h : k < L.length), smpRw (L.set k { L[k] with t := y }) = (smpRw L).set (k * 7) (.int .i64 y)
  | x :: r, 0, y, _ => by simp [smpRw, smpCs]
  | x :: r, k + 1, y, h => by
    have ih := smpRw_set r k y (by simpa using h)
    have e : (k + 1) * 7 = k * 7 + 7 := by omega
    show smpCs x ++ smpRw (r.set k _) = (smpCs x ++ smpRw r).set ((k + 1) * 7) _
    rw [List.set_append_right _ _ (by simp [smpCs]; omega)]
    have e2 : (k + 1) * 7 - (smpCs x).length = k * 7 := by simp [smpCs]; omega
    rw [e2]
    congr 1

/-- One sample's time in a row is set. -/
theorem own_time {w : World} {base : Nat} {g cap : Nat} {L : List Smp} (h : w.ownsRow base 28 7 (.slice (some ⟨g, 0, none⟩) L.length cap) L.length (smpRw L)) {k : Nat} (hk : k < L.length) (y : Int) :
    (w.setCell ⟨g, k * 7, none⟩ (.int .i64 y)).ownsRow base 28 7 (.slice (some ⟨g, 0, none⟩) L.length cap) L.length (smpRw (L.set k { L[k] with t := y })) := by
  rcases h.2 with ⟨hv, _⟩ | ⟨g', cap', cur, hv, hb, hg, h1, h2, h3, h4⟩
  · cases hv
  · injection hv with e1 e2 e3
    injection e1 with e1; injection e1 with e1 _ _
    subst e1; subst e3
    refine ⟨by rw [smpRw_len]; simp, .inr ⟨g, cap, cur.setIfInBounds (k * 7) (.int .i64 y), rfl, hb, block_set hg _, h1, h2, by rw [Array.size_setIfInBounds]; exact h3, ?_⟩⟩
    rw [Array.toList_setIfInBounds, List.take_set, h4, smpRw_set L k y hk]
theorem own_head {w : World} {base : Nat} {g cap n : Nat} {xs : List Value} (h : w.ownsRow base 28 7 (.slice (some ⟨g, 0, none⟩) n cap) n xs) : ∃ cur, w.heap[g]? = some (.cells cur 28 (0, 0)) := by
  rcases h.2 with ⟨hv, _⟩ | ⟨g', cap', cur, hv, hb, hg, _⟩
  · cases hv
  · injection hv with e1 e2 e3
    injection e1 with e1; injection e1 with e1 _ _
    subst e1
    exact ⟨cur, hg⟩
end Go.Proofs.Ytgkhhfojioepgaa
