/- The contract of Climb. -/
import Derived.Test.YtgkhhfojioepgaaTBetter
import Derived.Test.YtgkhhfojioepgaaBaseA
import Derived.Test.YtgkhhfojioepgaaTCheck
import Derived.BigRegion
namespace Go.Proofs.Ytgkhhfojioepgaa
open Go.RowKit
set_option linter.unusedSimpArgs false
set_option linter.unusedVariables false

/-- What Climb returns. -/
def climbE (a : Act) (th : Int) : Ln × Int :=
  if chkE a = 0 then (if 0 ≤ th ∧ th ≤ 200000 then (climbL th a.ss, 0) else (Ln.first 0, 9)) else (Ln.first 0, chkE a)

/-- A line in a block. -/
def LineAt (w : World) (g : Nat) (l : Ln) : Prop := w.heap[g]? = some (.cells #[.int .i64 l.up, .int .i64 l.down, .int .i64 l.turns, .int .i64 l.z] 139 (0, 0))
theorem LineAt.cells {w : World} {g : Nat} {l : Ln} (h : LineAt w g l) : w.cell? ⟨g, 0, none⟩ = some (.int .i64 l.up) ∧ w.cell? ⟨g, 1, none⟩ = some (.int .i64 l.down) ∧ w.cell? ⟨g, 2, none⟩ = some (.int .i64 l.turns) ∧ w.cell? ⟨g, 3, none⟩ = some (.int .i64 l.z) := by
  have h' : w.heap[g]? = _ := h
  refine ⟨?_, ?_, ?_, ?_⟩ <;> simp [World.cell?, h']
theorem LineAt.free {w : World} {g : Nat} {l : Ln} (h : LineAt w g l) (i : Nat) : w.frozen? ⟨g, i, none⟩ = false := by
  have h' : w.heap[g]? = _ := h
  simp [World.frozen?, h']
theorem LineAt.grown {w w' : World} {g : Nat} {l : Ln} (h : LineAt w g l) (hg : w.grownBy w' none) : LineAt w' g l :=
  (hg.block g (Array.getElem?_eq_some_iff.1 h).1 (by simp)).trans h
theorem LineAt.set {w : World} {g : Nat} {l : Ln} (h : LineAt w g l) (m : Ln) : LineAt ((((w.setCell ⟨g, 0, none⟩ (.int .i64 m.up)).setCell ⟨g, 1, none⟩ (.int .i64 m.down)).setCell ⟨g, 2, none⟩ (.int .i64 m.turns)).setCell ⟨g, 3, none⟩ (.int .i64 m.z)) g m := by
  have h' : w.heap[g]? = _ := h
  unfold LineAt
  simp [World.setCell, Array.getElem?_modify, h']
theorem LineAt.far {w : World} {g : Nat} {l : Ln} (h : LineAt w g l) {g' : Nat} (ne : g ≠ g') (i : Nat) (v : Value) : LineAt (w.setCell ⟨g', i, none⟩ v) g l := by
  show (w.setCell ⟨g', i, none⟩ v).heap[g]? = _
  rw [Below.heap_setCell _ _ _ _ ne]; exact h

structure ClS (w : World) (th : Int) (wr : World) (A B C : Nat) (best low high : Ln) : Prop where
  g : w.grownBy wr none
  tz : wr.cell? ⟨w.heap.size + 1, 0, none⟩ = some (.int .i64 th)
  kz : wr.heap[w.heap.size + 1 + 1]? = some (.cells #[.int .i64 0, .int .i64 0, .int .i64 0] 81 (0, 0))
  a : LineAt wr A best
  b : LineAt wr B low
  c : LineAt wr C high
  ab : A ≠ B
  ac : A ≠ C
  bc : B ≠ C
  ha : w.heap.size + 2 < A
  hb : w.heap.size + 2 < B
  hc : w.heap.size + 2 < C

set_option maxHeartbeats 1600000 in
theorem climb_err (a : Act) (th : Int) (w : World) (ha : ActAt w a) {E : Int} (hE : Hid ((climbE a th).2 = E)) (h0 : E ≠ 0 ∨ a.ss = []) :
    Calls Try.prog 68 #[a.val, .int .i64 th] w fun x w' => x = .returned (.tuple #[.agg #[.int .i64 0, .int .i64 0, .int .i64 0], .int .i64 E]) ∧ w.grownBy w' none := by
  obtain ⟨ce, hce⟩ : ∃ e, chkE a = e := ⟨_, rfl⟩
  have hv := hE.out
  unfold climbE at hv
  rw [hce] at hv
  have HCE := Lib.hid hce
  have HA := Lib.hid ha
  clear hE hce ha
  obtain ⟨nm, sp, st, so, sc, ss, lo, lc, ls, to_, tc, ts⟩ := a
  simp only [Act.val] at *
  by_cases c1 : ce = 0
  · rw [if_pos c1] at hv
    subst c1
    by_cases c2 : 0 ≤ th ∧ th ≤ 200000
    · rw [if_pos c2] at hv
      simp only at hv
      have hs : ss = [] := h0.resolve_left (fun h => h hv.symm)
      subst hs
      have HV := Lib.hid hv.symm
      obtain ⟨t0, t1⟩ := c2
      clear hv h0
      simp only [List.length_nil] at *
      go_enter Try.func68, Try.ntmps68
      go_wp2_with fail
      refine (check_any ⟨nm, sp, st, so, sc, [], lo, lc, ls, to_, tc, ts⟩ _ (HA.out.grown (grown_trans (grown_trans (World.grownBy_alloc _ _ _) (World.grownBy_alloc _ _ _)) (World.grownBy_alloc _ _ _))) HCE).mono ?_; rintro e w1 ⟨rfl, hg1⟩
      have G1 : w.grownBy w1 none := grown_trans (grown_trans (grown_trans (World.grownBy_alloc w (.cells #[.string nm, .int .i64 sp, .int .i64 st, .slice so 0 sc, .slice lo ls.length lc, .slice to_ ts.length tc] 26) none) (World.grownBy_alloc _ _ _)) (World.grownBy_alloc _ _ _)) hg1
      have b3 : w1.cell? ⟨w.heap.size, 3, none⟩ = some (.slice so 0 sc) := grown_cell hg1 (by go_simp)
      have tz : w1.cell? ⟨w.heap.size + 1, 0, none⟩ = some (.int .i64 th) := grown_cell hg1 (by go_simp)
      have kz : w1.heap[w.heap.size + 1 + 1]? = some (.cells #[.int .i64 0, .int .i64 0, .int .i64 0] 81 (0, 0)) := by
        rw [hg1.block _ (by simp) (by simp)]
        have q := heap_alloc_new ((w.alloc (.cells #[.string nm, .int .i64 sp, .int .i64 st, .slice so 0 sc, .slice lo ls.length lc, .slice to_ ts.length tc] 26)).alloc (.cells #[.int .i64 th] 3)) (.cells #[.int .i64 0, .int .i64 0, .int .i64 0] 81)
        simpa using q
      have z0 : w1.cell? ⟨w.heap.size + 1 + 1, 0, none⟩ = some (.int .i64 0) := by simp [World.cell?, kz]
      have z1 : w1.cell? ⟨w.heap.size + 1 + 1, 1, none⟩ = some (.int .i64 0) := by simp [World.cell?, kz]
      have z2 : w1.cell? ⟨w.heap.size + 1 + 1, 2, none⟩ = some (.int .i64 0) := by simp [World.cell?, kz]
      have y0 : w1.frozen? ⟨w.heap.size + 1 + 1, 0, none⟩ = false := by simp [World.frozen?, kz]
      have y1 : w1.frozen? ⟨w.heap.size + 1 + 1, 1, none⟩ = false := by simp [World.frozen?, kz]
      have y2 : w1.frozen? ⟨w.heap.size + 1 + 1, 2, none⟩ = false := by simp [World.frozen?, kz]
      have HKZ := Lib.hid kz
      clear hg1 kz
      go_wp2_with fail
      refine (twithin_yes _ _ _ t0 t1 _).mono ?_; rintro e w2 ⟨rfl, rfl⟩
      go_wp2_with fail
      refine bodyPost_ret (v := .tuple #[.agg #[.int .i64 0, .int .i64 0, .int .i64 0], .int .i64 0]) (by simp [results, Try.results68, go_sem, z0, z1, z2]) rfl ⟨by rw [HV.out], ?_⟩
      exact grown_set (grown_set (grown_set G1 (by omega) _ _) (by omega) _ _) (by omega) _ _
    · rw [if_neg c2] at hv
      simp only at hv
      have HV := Lib.hid hv.symm
      have c3 : th < 0 ∨ 200000 < th := by omega
      have H3 := Lib.hid c3
      clear hv h0 c2 c3
      go_enter Try.func68, Try.ntmps68
      go_wp2_with fail
      refine (check_any ⟨nm, sp, st, so, sc, ss, lo, lc, ls, to_, tc, ts⟩ _ (HA.out.grown (grown_trans (grown_trans (World.grownBy_alloc _ _ _) (World.grownBy_alloc _ _ _)) (World.grownBy_alloc _ _ _))) HCE).mono ?_; rintro e w1 ⟨rfl, hg1⟩
      have G1 : w.grownBy w1 none := grown_trans (grown_trans (grown_trans (World.grownBy_alloc w (.cells #[.string nm, .int .i64 sp, .int .i64 st, .slice so ss.length sc, .slice lo ls.length lc, .slice to_ ts.length tc] 26) none) (World.grownBy_alloc _ _ _)) (World.grownBy_alloc _ _ _)) hg1
      have b3 : w1.cell? ⟨w.heap.size, 3, none⟩ = some (.slice so ss.length sc) := grown_cell hg1 (by go_simp)
      have tz : w1.cell? ⟨w.heap.size + 1, 0, none⟩ = some (.int .i64 th) := grown_cell hg1 (by go_simp)
      have kz : w1.heap[w.heap.size + 1 + 1]? = some (.cells #[.int .i64 0, .int .i64 0, .int .i64 0] 81 (0, 0)) := by
        rw [hg1.block _ (by simp) (by simp)]
        have q := heap_alloc_new ((w.alloc (.cells #[.string nm, .int .i64 sp, .int .i64 st, .slice so ss.length sc, .slice lo ls.length lc, .slice to_ ts.length tc] 26)).alloc (.cells #[.int .i64 th] 3)) (.cells #[.int .i64 0, .int .i64 0, .int .i64 0] 81)
        simpa using q
      have z0 : w1.cell? ⟨w.heap.size + 1 + 1, 0, none⟩ = some (.int .i64 0) := by simp [World.cell?, kz]
      have z1 : w1.cell? ⟨w.heap.size + 1 + 1, 1, none⟩ = some (.int .i64 0) := by simp [World.cell?, kz]
      have z2 : w1.cell? ⟨w.heap.size + 1 + 1, 2, none⟩ = some (.int .i64 0) := by simp [World.cell?, kz]
      have y0 : w1.frozen? ⟨w.heap.size + 1 + 1, 0, none⟩ = false := by simp [World.frozen?, kz]
      have y1 : w1.frozen? ⟨w.heap.size + 1 + 1, 1, none⟩ = false := by simp [World.frozen?, kz]
      have y2 : w1.frozen? ⟨w.heap.size + 1 + 1, 2, none⟩ = false := by simp [World.frozen?, kz]
      have HKZ := Lib.hid kz
      clear hg1 kz
      go_wp2_with fail
      refine (twithin_no _ _ _ H3.out _).mono ?_; rintro e w2 ⟨rfl, rfl⟩
      go_wp2_with fail
      refine bodyPost_ret (v := .tuple #[.agg #[.int .i64 0, .int .i64 0, .int .i64 0], .int .i64 9]) (by simp [results, Try.results68, go_sem, z0, z1, z2]) rfl ⟨by rw [HV.out], ?_⟩
      exact grown_set (grown_set (grown_set G1 (by omega) _ _) (by omega) _ _) (by omega) _ _
  · rw [if_neg c1] at hv
    simp only at hv
    have HV := Lib.hid hv.symm
    have hne : (ce != 0) = true := by simpa using c1
    clear hv h0 c1
    go_enter Try.func68, Try.ntmps68
    go_wp2_with fail
    refine (check_any ⟨nm, sp, st, so, sc, ss, lo, lc, ls, to_, tc, ts⟩ _ (HA.out.grown (grown_trans (grown_trans (World.grownBy_alloc _ _ _) (World.grownBy_alloc _ _ _)) (World.grownBy_alloc _ _ _))) HCE).mono ?_; rintro e w1 ⟨rfl, hg1⟩
    have G1 : w.grownBy w1 none := grown_trans (grown_trans (grown_trans (World.grownBy_alloc w (.cells #[.string nm, .int .i64 sp, .int .i64 st, .slice so ss.length sc, .slice lo ls.length lc, .slice to_ ts.length tc] 26) none) (World.grownBy_alloc _ _ _)) (World.grownBy_alloc _ _ _)) hg1
    have b3 : w1.cell? ⟨w.heap.size, 3, none⟩ = some (.slice so ss.length sc) := grown_cell hg1 (by go_simp)
    have tz : w1.cell? ⟨w.heap.size + 1, 0, none⟩ = some (.int .i64 th) := grown_cell hg1 (by go_simp)
    have kz : w1.heap[w.heap.size + 1 + 1]? = some (.cells #[.int .i64 0, .int .i64 0, .int .i64 0] 81 (0, 0)) := by
      rw [hg1.block _ (by simp) (by simp)]
      have q := heap_alloc_new ((w.alloc (.cells #[.string nm, .int .i64 sp, .int .i64 st, .slice so ss.length sc, .slice lo ls.length lc, .slice to_ ts.length tc] 26)).alloc (.cells #[.int .i64 th] 3)) (.cells #[.int .i64 0, .int .i64 0, .int .i64 0] 81)
      simpa using q
    have z0 : w1.cell? ⟨w.heap.size + 1 + 1, 0, none⟩ = some (.int .i64 0) := by simp [World.cell?, kz]
    have z1 : w1.cell? ⟨w.heap.size + 1 + 1, 1, none⟩ = some (.int .i64 0) := by simp [World.cell?, kz]
    have z2 : w1.cell? ⟨w.heap.size + 1 + 1, 2, none⟩ = some (.int .i64 0) := by simp [World.cell?, kz]
    have y0 : w1.frozen? ⟨w.heap.size + 1 + 1, 0, none⟩ = false := by simp [World.frozen?, kz]
    have y1 : w1.frozen? ⟨w.heap.size + 1 + 1, 1, none⟩ = false := by simp [World.frozen?, kz]
    have y2 : w1.frozen? ⟨w.heap.size + 1 + 1, 2, none⟩ = false := by simp [World.frozen?, kz]
    have HKZ := Lib.hid kz
    clear hg1 kz
    go_wp2_with fail
    refine bodyPost_ret (v := .tuple #[.agg #[.int .i64 0, .int .i64 0, .int .i64 0], .int .i64 ce]) (by simp [results, Try.results68, go_sem, z0, z1, z2]) rfl ⟨by rw [HV.out], ?_⟩
    exact grown_set (grown_set (grown_set G1 (by omega) _ _) (by omega) _ _) (by omega) _ _

end Go.Proofs.Ytgkhhfojioepgaa
