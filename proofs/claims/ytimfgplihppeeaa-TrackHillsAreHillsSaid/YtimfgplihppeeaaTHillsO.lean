/- The contracts of Hills of both sides, for any activity; two equal lists of hills. -/
import Derived.Test.YtimfgplihppeeaaTRHills
namespace Go.Proofs.Ytimfgplihppeeaa
open Go.RowKit

theorem hillsP_len {Z W : Nat → Int} {n : Nat} {least dip : Int} (hd : 0 ≤ dip) : ∀ (f fr : Nat), (hillsP Z W n least dip f fr).length ≤ n - fr
  | 0, _ => by simp [hillsP]
  | f + 1, fr => by
    rw [hillsP]
    split
    · simp
    · rename_i h
      obtain ⟨a, b, c⟩ := asc_fwd (Z := Z) hd (show fr < n by omega)
      split
      · have := hillsP_len (W := W) (least := least) hd f (asc Z n dip fr).2 (Z := Z) (n := n); omega
      · have := hillsP_len (W := W) (least := least) hd f ((asc Z n dip fr).1 + 1) (Z := Z) (n := n); simp only [List.length_cons]; omega
theorem hills_len {a : Act} {least dip : Int} {L : List HillV} {E : Int} (h : hillsOut a least dip = (L, E)) : L.length ≤ 20000 := by
  unfold hillsOut at h
  split at h
  · rename_i h0
    split at h
    · rename_i h1
      simp only [Prod.mk.injEq] at h
      rw [← h.1]
      have := hillsP_len (Z := zOf a.ss) (W := wayN a.ss) (n := a.ss.length) (least := least) h1.2.1 (a.ss.length - 0) 0
      have hs := (chk_ok h0).sl
      unfold hillsL; omega
    · simp only [Prod.mk.injEq] at h; rw [← h.1]; simp
  · simp only [Prod.mk.injEq] at h; rw [← h.1]; simp

theorem flat_at {α β : Type} (f : α → List β) (s : Nat) (hf : ∀ x, (f x).length = s) : ∀ (L : List α) (j i : Nat) (hj : j < L.length), i < s → (L.flatMap f)[j * s + i]? = (f L[j])[i]?
  | [], j, _, hj, _ => absurd hj (by simp)
  | x :: r, 0, i, _, hi => by
    rw [List.flatMap_cons, Nat.zero_mul, Nat.zero_add, List.getElem?_append_left (by rw [hf]; exact hi)]
    rfl
  | x :: r, j + 1, i, hj, hi => by
    have h := flat_at f s hf r j i (by simpa using hj) hi
    rw [List.flatMap_cons, List.getElem?_append_right (by rw [hf, Nat.succ_mul]; omega), hf, show (j + 1) * s + i - s = j * s + i by rw [Nat.succ_mul]; omega, h]
    rfl
/-- A list of hills as a slice: where it lies. -/
theorem own_hills {w : World} {base : Nat} {v : Value} {L : List HillV} (h : w.ownsRow base 33 4 v L.length (hillsVs L)) :
    ∃ ao cap, v = .slice ao L.length cap ∧ ∀ j (hj : j < L.length), ∃ g, ao = some ⟨g, 0, none⟩ ∧ w.cell? ⟨g, j * 4, none⟩ = some (.int .i64 L[j].fr) ∧ w.cell? ⟨g, j * 4 + 1, none⟩ = some (.int .i64 L[j].to_) ∧ w.cell? ⟨g, j * 4 + 2, none⟩ = some (.int .i64 L[j].rise) ∧ w.cell? ⟨g, j * 4 + 3, none⟩ = some (.int .i64 L[j].way) := by
  rcases h.2 with ⟨hv, h0⟩ | ⟨g, cap, cur, hv, hb, hg, rest⟩
  · exact ⟨none, 0, by rw [hv, h0], fun j hj => absurd hj (by omega)⟩
  · refine ⟨some ⟨g, 0, none⟩, cap, hv, fun j hj => ⟨g, rfl, ?_⟩⟩
    have hc : ∀ (i : Nat) (u : Value), i < 4 → (hillCs L[j])[i]? = some u → w.cell? ⟨g, j * 4 + i, none⟩ = some u := fun i u hi hu => by
      have q := h.cells (g := g) (by rw [hv]; rfl) (j * 4 + i) u (by unfold hillsVs; rw [flat_at hillCs 4 (fun _ => rfl) L j i hj hi]; exact hu)
      have e : (⟨g, 0, none⟩ : Addr).add (j * 4 + i) = ⟨g, j * 4 + i, none⟩ := by unfold Addr.add; split <;> simp_all
      rw [e] at q; exact q
    exact ⟨hc 0 _ (by omega) rfl, hc 1 _ (by omega) rfl, hc 2 _ (by omega) rfl, hc 3 _ (by omega) rfl⟩

set_option maxHeartbeats 1600000 in
theorem equal_hills {w : World} {base1 base2 : Nat} {v1 v2 : Value} {L : List HillV} (h1 : w.ownsRow base1 33 4 v1 L.length (hillsVs L)) (h2 : w.ownsRow base2 33 4 v2 L.length (hillsVs L)) (hn : L.length ≤ 20000) :
    Calls Try.prog 17 #[v1, v2] w fun e w' => e = .returned (.bool true) ∧ w.grownBy w' none := by
  obtain ⟨a1, c1, rfl, q1⟩ := own_hills h1
  obtain ⟨a2, c2, rfl, q2⟩ := own_hills h2
  have Q1 := Lib.hid q1; have Q2 := Lib.hid q2
  clear h1 h2 q1 q2
  go_enter Try.func17, Try.ntmps17
  go_wp2_with fail
  go_loopw [13] (fun iv wr => ∃ k : Nat, k ≤ L.length ∧ iv = .int .i64 k ∧ Hid (w.grownBy wr none)) (fun iv _ => L.length - (intOf iv).toNat)
  case atStart => exact ⟨0, Nat.zero_le _, rfl, grown_refl _ _⟩
  case round =>
    obtain ⟨k, hk, rfl, hg⟩ := hrel
    by_cases hlt : k < L.length
    · obtain ⟨g1, rfl, x0, x1, x2, x3⟩ := Q1.out k hlt
      obtain ⟨g2, rfl, y0, y1, y2, y3⟩ := Q2.out k hlt
      replace x0 := grown_cell hg.out x0; replace x1 := grown_cell hg.out x1; replace x2 := grown_cell hg.out x2; replace x3 := grown_cell hg.out x3
      replace y0 := grown_cell hg.out y0; replace y1 := grown_cell hg.out y1; replace y2 := grown_cell hg.out y2; replace y3 := grown_cell hg.out y3
      generalize L[k] = h at *
      obtain ⟨z0, z1, z2, z3⟩ := h
      simp only at x0 x1 x2 x3 y0 y1 y2 y3
      go_wp2_with fail
      go_quiet (fail)
      go_wp2_with fail
      go_roundw
      case rel => exact ⟨k + 1, by omega, by go_num, grown_trans hg.out (grown_drewN _ _ _)⟩
      case measure => simp [intOf]; omega
    · go_wp2_with fail
      go_ret
      exact ⟨rfl, hg.out⟩

theorem Hills_any (a : Act) (least dip : Int) (w : World) (ha : ActAt w a) {L : List HillV} {E : Int} (hE : Hid (hillsOut a least dip = (L, E))) :
    Calls Try.prog 15 #[a.val, .int .i64 least, .int .i64 dip] w fun x w' => (∃ v, x = .returned (.tuple #[v, .int .i64 E]) ∧ w'.ownsRow w.heap.size 33 4 v L.length (hillsVs L)) ∧ w.grownBy w' none := by
  obtain ⟨ce, hce⟩ : ∃ e, chkE a = e := ⟨_, rfl⟩
  have hv := hE.out
  unfold hillsOut at hv
  rw [hce] at hv
  have HCE := Lib.hid hce; have HA := Lib.hid ha
  by_cases c1 : ce = 0
  · rw [if_pos c1] at hv
    subst c1
    have hok := chk_ok hce
    by_cases c2 : (1 ≤ least ∧ least ≤ 200000) ∧ 0 ≤ dip ∧ dip ≤ 200000
    · rw [if_pos c2] at hv
      simp only [Prod.mk.injEq] at hv
      obtain ⟨hL, rfl⟩ := hv
      have HP := Lib.hid hok.plane
      have HZ := Lib.hid (z_bd hok)
      obtain ⟨nm, sp, st, so, sc, ss, lo, lc, ls, to_, tc, ts⟩ := a
      exact Hills_ok nm sp st so sc ss lo lc ls to_ tc ts least dip c2.1.1 c2.1.2 c2.2.1 c2.2.2 hok.sl w HA HCE HP HZ (Lib.hid hL)
    · rw [if_neg c2] at hv
      simp only [Prod.mk.injEq] at hv
      obtain ⟨rfl, rfl⟩ := hv
      have C2 := Lib.hid c2
      obtain ⟨nm, sp, st, so, sc, ss, lo, lc, ls, to_, tc, ts⟩ := a
      simp only [Act.val] at *
      clear hE hce hok ha
      by_cases c3 : 1 ≤ least ∧ least ≤ 200000
      · have c4 : dip < 0 ∨ 200000 < dip := by have := C2.out; omega
        have C4 := Lib.hid c4
        clear c2 c4 C2
        go_enter Try.func15, Try.ntmps15
        go_wp2_with fail
        refine (check_any ⟨nm, sp, st, so, sc, ss, lo, lc, ls, to_, tc, ts⟩ _ (HA.out.grown (World.grownBy_alloc _ _ _)) HCE).mono ?_; rintro e w1 ⟨rfl, hg1⟩
        have G1 := Lib.hid (grown_trans (World.grownBy_alloc w (.cells #[.string nm, .int .i64 sp, .int .i64 st, .slice so ss.length sc, .slice lo ls.length lc, .slice to_ ts.length tc] 26) none) hg1)
        clear hg1
        go_wp2_with fail
        refine (twithin_yes _ _ _ c3.1 c3.2 _).mono ?_; rintro e w2 ⟨rfl, rfl⟩
        go_wp2_with fail
        refine (twithin_no _ _ _ C4.out _).mono ?_; rintro e w2 ⟨rfl, rfl⟩
        go_wp2_with fail
        go_ret2
        exact ⟨⟨_, rfl, World.ownsRow_nil _ _ _ _⟩, G1.out⟩
      · have c4 : least < 1 ∨ 200000 < least := by omega
        have C4 := Lib.hid c4
        clear c2 c3 c4 C2
        go_enter Try.func15, Try.ntmps15
        go_wp2_with fail
        refine (check_any ⟨nm, sp, st, so, sc, ss, lo, lc, ls, to_, tc, ts⟩ _ (HA.out.grown (World.grownBy_alloc _ _ _)) HCE).mono ?_; rintro e w1 ⟨rfl, hg1⟩
        have G1 := Lib.hid (grown_trans (World.grownBy_alloc w (.cells #[.string nm, .int .i64 sp, .int .i64 st, .slice so ss.length sc, .slice lo ls.length lc, .slice to_ ts.length tc] 26) none) hg1)
        clear hg1
        go_wp2_with fail
        refine (twithin_no _ _ _ C4.out _).mono ?_; rintro e w2 ⟨rfl, rfl⟩
        go_wp2_with fail
        go_ret2
        exact ⟨⟨_, rfl, World.ownsRow_nil _ _ _ _⟩, G1.out⟩
  · rw [if_neg c1] at hv
    simp only [Prod.mk.injEq] at hv
    obtain ⟨rfl, rfl⟩ := hv
    have hne : (ce != 0) = true := by simpa using c1
    obtain ⟨nm, sp, st, so, sc, ss, lo, lc, ls, to_, tc, ts⟩ := a
    simp only [Act.val] at *
    clear hE hce ha c1
    go_enter Try.func15, Try.ntmps15
    go_wp2_with fail
    refine (check_any ⟨nm, sp, st, so, sc, ss, lo, lc, ls, to_, tc, ts⟩ _ (HA.out.grown (World.grownBy_alloc _ _ _)) HCE).mono ?_; rintro e w1 ⟨rfl, hg1⟩
    have G1 := Lib.hid (grown_trans (World.grownBy_alloc w (.cells #[.string nm, .int .i64 sp, .int .i64 st, .slice so ss.length sc, .slice lo ls.length lc, .slice to_ ts.length tc] 26) none) hg1)
    clear hg1
    go_wp2_with fail
    go_ret2
    exact ⟨⟨_, rfl, World.ownsRow_nil _ _ _ _⟩, G1.out⟩

theorem RHills_any (a : Act) (least dip : Int) (w : World) (ha : ActAt w a) {L : List HillV} {E : Int} (hE : Hid (hillsOut a least dip = (L, E))) :
    Calls Try.prog 16 #[a.val, .int .i64 least, .int .i64 dip] w fun x w' => (∃ v, x = .returned (.tuple #[v, .int .i64 E]) ∧ w'.ownsRow w.heap.size 33 4 v L.length (hillsVs L)) ∧ w.grownBy w' none := by
  obtain ⟨ce, hce⟩ : ∃ e, chkE a = e := ⟨_, rfl⟩
  have hv := hE.out
  unfold hillsOut at hv
  rw [hce] at hv
  have HCE := Lib.hid hce; have HA := Lib.hid ha
  by_cases c1 : ce = 0
  · rw [if_pos c1] at hv
    subst c1
    have hok := chk_ok hce
    by_cases c2 : (1 ≤ least ∧ least ≤ 200000) ∧ 0 ≤ dip ∧ dip ≤ 200000
    · rw [if_pos c2] at hv
      simp only [Prod.mk.injEq] at hv
      obtain ⟨hL, rfl⟩ := hv
      have HP := Lib.hid hok.plane
      have HZ := Lib.hid (z_bd hok)
      obtain ⟨nm, sp, st, so, sc, ss, lo, lc, ls, to_, tc, ts⟩ := a
      exact RHills_ok nm sp st so sc ss lo lc ls to_ tc ts least dip c2.1.1 c2.1.2 c2.2.1 c2.2.2 hok.sl w HA HCE HP HZ (Lib.hid hL)
    · rw [if_neg c2] at hv
      simp only [Prod.mk.injEq] at hv
      obtain ⟨rfl, rfl⟩ := hv
      have C2 := Lib.hid c2
      obtain ⟨nm, sp, st, so, sc, ss, lo, lc, ls, to_, tc, ts⟩ := a
      simp only [Act.val] at *
      clear hE hce hok ha
      by_cases c3 : 1 ≤ least ∧ least ≤ 200000
      · have c4 : dip < 0 ∨ 200000 < dip := by have := C2.out; omega
        have C4 := Lib.hid c4
        clear c2 c4 C2
        go_enter Try.func16, Try.ntmps16
        go_wp2_with fail
        refine (rcheck_any ⟨nm, sp, st, so, sc, ss, lo, lc, ls, to_, tc, ts⟩ _ (HA.out.grown (World.grownBy_alloc _ _ _)) HCE).mono ?_; rintro e w1 ⟨rfl, hg1⟩
        have G1 := Lib.hid (grown_trans (World.grownBy_alloc w (.cells #[.string nm, .int .i64 sp, .int .i64 st, .slice so ss.length sc, .slice lo ls.length lc, .slice to_ ts.length tc] 26) none) hg1)
        clear hg1
        go_wp2_with fail
        refine (rout_no _ _ _ c3.1 c3.2 _).mono ?_; rintro e w2 ⟨rfl, rfl⟩
        go_wp2_with fail
        refine (rout_yes _ _ _ C4.out _).mono ?_; rintro e w2 ⟨rfl, rfl⟩
        go_wp2_with fail
        go_ret2
        exact ⟨⟨_, rfl, World.ownsRow_nil _ _ _ _⟩, G1.out⟩
      · have c4 : least < 1 ∨ 200000 < least := by omega
        have C4 := Lib.hid c4
        clear c2 c3 c4 C2
        go_enter Try.func16, Try.ntmps16
        go_wp2_with fail
        refine (rcheck_any ⟨nm, sp, st, so, sc, ss, lo, lc, ls, to_, tc, ts⟩ _ (HA.out.grown (World.grownBy_alloc _ _ _)) HCE).mono ?_; rintro e w1 ⟨rfl, hg1⟩
        have G1 := Lib.hid (grown_trans (World.grownBy_alloc w (.cells #[.string nm, .int .i64 sp, .int .i64 st, .slice so ss.length sc, .slice lo ls.length lc, .slice to_ ts.length tc] 26) none) hg1)
        clear hg1
        go_wp2_with fail
        refine (rout_yes _ _ _ C4.out _).mono ?_; rintro e w2 ⟨rfl, rfl⟩
        go_wp2_with fail
        go_ret2
        exact ⟨⟨_, rfl, World.ownsRow_nil _ _ _ _⟩, G1.out⟩
  · rw [if_neg c1] at hv
    simp only [Prod.mk.injEq] at hv
    obtain ⟨rfl, rfl⟩ := hv
    have hne : (ce != 0) = true := by simpa using c1
    obtain ⟨nm, sp, st, so, sc, ss, lo, lc, ls, to_, tc, ts⟩ := a
    simp only [Act.val] at *
    clear hE hce ha c1
    go_enter Try.func16, Try.ntmps16
    go_wp2_with fail
    refine (rcheck_any ⟨nm, sp, st, so, sc, ss, lo, lc, ls, to_, tc, ts⟩ _ (HA.out.grown (World.grownBy_alloc _ _ _)) HCE).mono ?_; rintro e w1 ⟨rfl, hg1⟩
    have G1 := Lib.hid (grown_trans (World.grownBy_alloc w (.cells #[.string nm, .int .i64 sp, .int .i64 st, .slice so ss.length sc, .slice lo ls.length lc, .slice to_ ts.length tc] 26) none) hg1)
    clear hg1
    go_wp2_with fail
    go_ret2
    exact ⟨⟨_, rfl, World.ownsRow_nil _ _ _ _⟩, G1.out⟩

end Go.Proofs.Ytimfgplihppeeaa
