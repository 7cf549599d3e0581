/- The contract of Climb for one sample, and for any activity. -/
import Derived.Test.YtkifmjohcmjeeaaTClimbL
namespace Go.Proofs.Ytkifmjohcmjeeaa
open Go.RowKit

set_option maxRecDepth 100000 in
set_option maxHeartbeats 3200000 in
theorem climb_one (nm : ByteArray) (sp st : Int) (b off sc : Nat) (y : Smp) (lo : Option Addr) (lc : Nat) (ls : List LapV) (to_ : Option Addr) (tc : Nat) (ts : List ByteArray) (th : Int) (t0 : 0 ≤ th) (t1 : th ≤ 200000) (hcap : 1 ≤ sc) (w : World)
    (HA : Hid (ActAt w ⟨nm, sp, st, some ⟨b, off, none⟩, sc, [y], lo, lc, ls, to_, tc, ts⟩)) (HCE : Hid (chkE ⟨nm, sp, st, some ⟨b, off, none⟩, sc, [y], lo, lc, ls, to_, tc, ts⟩ = 0)) :
    Calls Try.prog 55 #[.agg #[.string nm, .int .i64 sp, .int .i64 st, .slice (some ⟨b, off, none⟩) 1 sc, .slice lo ls.length lc, .slice to_ ts.length tc], .int .i64 th] w fun x w' => x = .returned (.tuple #[.agg #[.int .i64 0, .int .i64 0, .int .i64 0], .int .i64 0]) ∧ w.grownBy w' none := by
  have n5 : (1 : Int) ≤ (sc : Int) := by omega
  go_enter Try.func55, Try.ntmps55
  go_wp2_with fail
  refine (check_any ⟨nm, sp, st, some ⟨b, off, none⟩, sc, [y], lo, lc, ls, to_, tc, ts⟩ _ (HA.out.grown (grown_trans (grown_trans (World.grownBy_alloc _ _ _) (World.grownBy_alloc _ _ _)) (World.grownBy_alloc _ _ _))) HCE).mono ?_; rintro e w1 ⟨rfl, hg1⟩
  have G1 : w.grownBy w1 none := grown_trans (grown_trans (grown_trans (World.grownBy_alloc w (.cells #[.string nm, .int .i64 sp, .int .i64 st, .slice (some ⟨b, off, none⟩) 1 sc, .slice lo ls.length lc, .slice to_ ts.length tc] 55) none) (World.grownBy_alloc _ _ _)) (World.grownBy_alloc _ _ _)) hg1
  have b3 : w1.cell? ⟨w.heap.size, 3, none⟩ = some (.slice (some ⟨b, off, none⟩) 1 sc) := grown_cell hg1 (by go_simp)
  have tz : w1.cell? ⟨w.heap.size + 1, 0, none⟩ = some (.int .i64 th) := grown_cell hg1 (by go_simp)
  have kz : w1.heap[w.heap.size + 1 + 1]? = some (.cells #[.int .i64 0, .int .i64 0, .int .i64 0] 75 (0, 0)) := by
    rw [hg1.block _ (by simp) (by simp)]
    have q := heap_alloc_new ((w.alloc (.cells #[.string nm, .int .i64 sp, .int .i64 st, .slice (some ⟨b, off, none⟩) 1 sc, .slice lo ls.length lc, .slice to_ ts.length tc] 55)).alloc (.cells #[.int .i64 th] 3)) (.cells #[.int .i64 0, .int .i64 0, .int .i64 0] 75)
    simpa using q
  have z0 : w1.cell? ⟨w.heap.size + 1 + 1, 0, none⟩ = some (.int .i64 0) := by simp [World.cell?, kz]
  have z1 : w1.cell? ⟨w.heap.size + 1 + 1, 1, none⟩ = some (.int .i64 0) := by simp [World.cell?, kz]
  have z2 : w1.cell? ⟨w.heap.size + 1 + 1, 2, none⟩ = some (.int .i64 0) := by simp [World.cell?, kz]
  have y0 : w1.frozen? ⟨w.heap.size + 1 + 1, 0, none⟩ = false := by simp [World.frozen?, kz]
  have y1 : w1.frozen? ⟨w.heap.size + 1 + 1, 1, none⟩ = false := by simp [World.frozen?, kz]
  have y2 : w1.frozen? ⟨w.heap.size + 1 + 1, 2, none⟩ = false := by simp [World.frozen?, kz]
  have HKZ := Lib.hid kz
  have hsz : Hid (w.heap.size + 3 ≤ w1.heap.size) := by show _ ≤ _; have := hg1.size; simp at this; omega
  clear hg1 kz
  go_wp2_with fail
  refine (twithin_yes _ _ _ t0 t1 _).mono ?_; rintro e w2 ⟨rfl, rfl⟩
  obtain ⟨e0, e1, e2, cz, e4, e5, e6⟩ := ((HA.out.grown G1).hs).cells _ rfl 0 (by simp)
  clear e0 e1 e2 e4 e5 e6
  obtain ⟨yt, yx, yy, zf, yp, yq, ys⟩ := y
  simp only [Nat.zero_mul, Nat.add_zero, List.getElem_cons_zero] at cz
  have hmf : ∀ (fn : Fn) (first cap : Array Value) (w : World), (Instr.makeFunc fn first cap).run Try.prog w = .ok (.func fn first cap) w := fun _ _ _ _ => rfl
  go_upto_region 10 with (fail)
  have hs1 : w.heap.size + 2 < w1.heap.size := by have h9 := hsz.out; omega
  go_cut [9, 10] (fun s9 s10 wx => ∃ B C, s9 = .pointer (some ⟨B, 0, none⟩) ∧ s10 = .pointer (some ⟨C, 0, none⟩) ∧ ClS w th wx w1.heap.size B C (Ln.first zf) (Ln.first zf) (Ln.first zf) ∧ wx.cell? ⟨w.heap.size, 3, none⟩ = some (.slice (some ⟨b, off, none⟩) 1 sc))
  case first => as_aux_lemma =>
    go_region
    all_goals
      go_wp2_with fail
      go_meet
      first
        | exact ⟨_, _, rfl, rfl, cls_start G1 tz HKZ.out hs1 _ _ (.inl ⟨rfl, rfl⟩), grown_cell (grown_trans (grown_trans (grown_trans (World.grownBy_alloc _ _ _) (World.grownBy_alloc _ _ _)) (World.grownBy_alloc _ _ _)) (grown_drewN _ _ 1)) b3⟩
        | exact ⟨_, _, rfl, rfl, cls_start G1 tz HKZ.out hs1 _ _ (.inr ⟨rfl, rfl⟩), grown_cell (grown_trans (grown_trans (grown_trans (World.grownBy_alloc _ _ _) (World.grownBy_alloc _ _ _)) (World.grownBy_alloc _ _ _)) (grown_drewN _ _ 1)) b3⟩
  case rest =>
    obtain ⟨B, C, rfl, rfl, hc0, b3⟩ := hcut
    have HC0 := Lib.hid hc0
    clear hc0 tz z0 z1 z2 y0 y1 y2 cz
    by_cases n6 : sc = 1
    · subst n6
      go_wp2_with fail
      go_loopw [42] (fun iv wr => iv = .int .i64 0 ∧ Hid (ClS w th wr w1.heap.size B C (Ln.first zf) (Ln.first zf) (Ln.first zf))) (fun _ _ => 0)
      case atStart => exact ⟨rfl, HC0.out⟩
      case round =>
        obtain ⟨rfl, hcs⟩ := hrel
        obtain ⟨q0, q1, q2, q3⟩ := hcs.out.a.cells
        have hkz := hcs.out.kz
        have z0 : wr.cell? ⟨w.heap.size + 1 + 1, 0, none⟩ = some (.int .i64 0) := by simp [World.cell?, hkz]
        have z1 : wr.cell? ⟨w.heap.size + 1 + 1, 1, none⟩ = some (.int .i64 0) := by simp [World.cell?, hkz]
        have z2 : wr.cell? ⟨w.heap.size + 1 + 1, 2, none⟩ = some (.int .i64 0) := by simp [World.cell?, hkz]
        have y0 : wr.frozen? ⟨w.heap.size + 1 + 1, 0, none⟩ = false := by simp [World.frozen?, hkz]
        have y1 : wr.frozen? ⟨w.heap.size + 1 + 1, 1, none⟩ = false := by simp [World.frozen?, hkz]
        have y2 : wr.frozen? ⟨w.heap.size + 1 + 1, 2, none⟩ = false := by simp [World.frozen?, hkz]
        have HG := Lib.hid hcs.out.g
        simp only [Ln.first] at q0 q1 q2 q3
        clear hcs hkz
        go_wp2_with fail
        refine bodyPost_ret (v := .tuple #[.agg #[.int .i64 0, .int .i64 0, .int .i64 0], .int .i64 0]) (by simp [results, Try.results55, go_sem, z0, z1, z2]) rfl ⟨rfl, ?_⟩
        exact grown_set (grown_set (grown_set HG.out (by omega) _ _) (by omega) _ _) (by omega) _ _
    · go_wp2_with fail
      go_loopw [42] (fun iv wr => iv = .int .i64 0 ∧ Hid (ClS w th wr w1.heap.size B C (Ln.first zf) (Ln.first zf) (Ln.first zf))) (fun _ _ => 0)
      case atStart => exact ⟨rfl, HC0.out⟩
      case round =>
        obtain ⟨rfl, hcs⟩ := hrel
        obtain ⟨q0, q1, q2, q3⟩ := hcs.out.a.cells
        have hkz := hcs.out.kz
        have z0 : wr.cell? ⟨w.heap.size + 1 + 1, 0, none⟩ = some (.int .i64 0) := by simp [World.cell?, hkz]
        have z1 : wr.cell? ⟨w.heap.size + 1 + 1, 1, none⟩ = some (.int .i64 0) := by simp [World.cell?, hkz]
        have z2 : wr.cell? ⟨w.heap.size + 1 + 1, 2, none⟩ = some (.int .i64 0) := by simp [World.cell?, hkz]
        have y0 : wr.frozen? ⟨w.heap.size + 1 + 1, 0, none⟩ = false := by simp [World.frozen?, hkz]
        have y1 : wr.frozen? ⟨w.heap.size + 1 + 1, 1, none⟩ = false := by simp [World.frozen?, hkz]
        have y2 : wr.frozen? ⟨w.heap.size + 1 + 1, 2, none⟩ = false := by simp [World.frozen?, hkz]
        have HG := Lib.hid hcs.out.g
        simp only [Ln.first] at q0 q1 q2 q3
        clear hcs hkz
        go_wp2_with fail
        refine bodyPost_ret (v := .tuple #[.agg #[.int .i64 0, .int .i64 0, .int .i64 0], .int .i64 0]) (by simp [results, Try.results55, go_sem, z0, z1, z2]) rfl ⟨rfl, ?_⟩
        exact grown_set (grown_set (grown_set HG.out (by omega) _ _) (by omega) _ _) (by omega) _ _

theorem fst_not {a : Act} {th : Int} {r : Ln} {E : Int} (h : climbE a th = (r, E)) (h0 : E ≠ 0 ∨ a.ss = []) : r = Ln.first 0 := by
  unfold climbE at h
  split at h
  · split at h
    · simp only [Prod.mk.injEq] at h
      rcases h0 with h0 | h0
      · omega
      · rw [← h.1, h0]; rfl
    · simp only [Prod.mk.injEq] at h; exact h.1.symm
  · simp only [Prod.mk.injEq] at h; exact h.1.symm

/-- What is known of an activity with samples in which nothing is wrong. -/
theorem climb_facts {a : Act} {th : Int} {r : Ln} (h : climbE a th = (r, 0)) : chkE a = 0 ∧ 0 ≤ th ∧ th ≤ 200000 ∧ climbL th a.ss = r ∧ (a.ss.length : Int) ≤ 20000 ∧ (∀ k, -100000 ≤ (smpD a.ss k).z ∧ (smpD a.ss k).z ≤ 100000) := by
  unfold climbE at h
  split at h
  · rename_i hc
    split at h
    · rename_i ht
      simp only [Prod.mk.injEq] at h
      have hk := chk_ok hc
      refine ⟨hc, ht.1, ht.2, h.1, hk.sl, fun k => ?_⟩
      by_cases hk2 : k < a.ss.length
      · rw [smpD_at hk2]
        have := smps_ok a.ss none hk.smps _ (List.getElem_mem hk2)
        unfold smpIn at this
        omega
      · have : smpD a.ss k = smpD [] 0 := by unfold smpD; rw [List.getD_eq_getElem?_getD, List.getElem?_eq_none (by omega)]; rfl
        rw [this]; decide
    · simp only [Prod.mk.injEq] at h; omega
  · rename_i hc
    simp only [Prod.mk.injEq] at h; exact absurd h.2 hc

set_option maxRecDepth 100000 in
theorem climb_any (a : Act) (th : Int) (w : World) (ha : ActAt w a) (hc : a.ss.length ≤ a.sc) {r : Ln} {E : Int} (hE : Hid (climbE a th = (r, E))) :
    Calls Try.prog 55 #[a.val, .int .i64 th] w fun x w' => x = .returned (.tuple #[.agg #[.int .i64 r.up, .int .i64 r.down, .int .i64 r.turns], .int .i64 E]) ∧ w.grownBy w' none := by
  by_cases h0 : E ≠ 0 ∨ a.ss = []
  · rw [fst_not hE.out h0]
    exact climb_err a th w ha (E := E) (by show _ = _; rw [hE.out]) h0
  · have hE0 : E = 0 := Classical.byContradiction fun h => h0 (.inl h)
    have hss : a.ss ≠ [] := fun h => h0 (.inr h)
    subst hE0
    obtain ⟨f1, f2, f3, f4, f5, f6⟩ := climb_facts hE.out
    obtain ⟨nm, sp, st, so, sc, ss, lo, lc, ls, to_, tc, ts⟩ := a
    simp only at *
    obtain ⟨b, off, rfl⟩ : ∃ b off, so = some ⟨b, off, none⟩ := by
      have hn := ha.hs
      cases so with
      | none => exact absurd (hn.nil rfl) hss
      | some p =>
        obtain ⟨b, off, spot⟩ := p
        have hsp := hn.spot _ rfl hss
        simp only at hsp
        subst hsp
        exact ⟨b, off, rfl⟩
    by_cases h2 : 2 ≤ ss.length
    · exact climb_two nm sp st b off sc ss lo lc ls to_ tc ts th f2 f3 f5 h2 hc w (Lib.hid ha) (Lib.hid f1) (Lib.hid f6) (Lib.hid f4)
    · obtain ⟨y, rfl⟩ : ∃ y, ss = [y] := by
        match ss, hss, h2 with
        | [y], _, _ => exact ⟨y, rfl⟩
        | _ :: _ :: _, _, h => simp at h
      have : r = Ln.first y.z := f4.symm
      subst this
      exact climb_one nm sp st b off sc y lo lc ls to_ tc ts th f2 f3 (by simpa using hc) w (Lib.hid ha) (Lib.hid f1)

end Go.Proofs.Ytkifmjohcmjeeaa
