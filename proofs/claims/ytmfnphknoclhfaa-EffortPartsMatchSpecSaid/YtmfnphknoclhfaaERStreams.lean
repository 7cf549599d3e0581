/- The contract of the reference's streams: all of an activity. -/
import Derived.Test.YtmfnphknoclhfaaERPartOf
import Derived.Test.YtmfnphknoclhfaaERStream
import Derived.Test.YtmfnphknoclhfaaESpan
namespace Go.Proofs.Ytmfnphknoclhfaa
open Go.RowKit

/-- A stream that lies behind a block. -/
def Gd (z : Nat) (ss : List Smp) (n : Nat) (kind : Int) (W : World) (v : Value) : Prop :=
  ∃ ao c, v = .slice ao n c ∧ StrIn W ao c (streamS kind ss) n ∧ ∀ x, ao = some x → z < x.block
theorem Gd.grown {z n : Nat} {ss : List Smp} {kind : Int} {W W' : World} {v : Value} (h : Gd z ss n kind W v) (g : W.grownBy W' none) : Gd z ss n kind W' v := by
  obtain ⟨ao, c, e, s, b⟩ := h; exact ⟨ao, c, e, s.grown g, b⟩
theorem Gd.setc {z n : Nat} {ss : List Smp} {kind : Int} {W : World} {v : Value} (h : Gd z ss n kind W v) (i : Nat) (u : Value) : Gd z ss n kind (W.setCell ⟨z, i, none⟩ u) v := by
  obtain ⟨ao, c, e, s, b⟩ := h
  refine ⟨ao, c, e, ⟨s.e, s.q, s.b, s.h.nil, s.h.spot, fun a ha i hi => ?_⟩, b⟩
  have := b a ha
  rw [World.cell?_setCell_other _ _ _ _ (fun e => by injection e with e1 _ _; omega)]
  exact s.h.cells a ha i hi
theorem Gd.setd {z y n : Nat} {ss : List Smp} {kind : Int} {W : World} {v : Value} (hy : y ≤ z) (h : Gd z ss n kind W v) (i : Nat) (u : Value) : Gd z ss n kind (W.setCell ⟨y, i, none⟩ u) v := by
  obtain ⟨ao, c, e, s, b⟩ := h
  refine ⟨ao, c, e, ⟨s.e, s.q, s.b, s.h.nil, s.h.spot, fun a ha i hi => ?_⟩, b⟩
  have := b a ha
  rw [World.cell?_setCell_other _ _ _ _ (fun e => by injection e with e1 _ _; omega)]
  exact s.h.cells a ha i hi
theorem gd_own {z n base : Nat} {ss : List Smp} {kind : Int} {W : World} {v : Value} (hs : SOk ss) (hn : spanL ss = (n : Int)) (h : W.ownsRow base 3 1 v (streamS kind ss).length (ints (streamS kind ss))) (hb : z < base) : Gd z ss n kind W v := by
  have hl : (streamS kind ss).length = n := by have := span_len kind hs; omega
  obtain ⟨ao, c, e, hI, hob⟩ := intsAt_own h
  rw [hl] at e
  refine ⟨ao, c, e, ⟨hl, ?_, streamS_bd hs, hI⟩, fun x hx => ?_⟩
  · rcases h.2 with ⟨hv, h0⟩ | ⟨g, cap, cur, hv, hb, hg, hle, rest⟩
    · omega
    · rw [hv] at e; injection e with e1 e2 e3; omega
  · rcases h.2 with ⟨hv, h0⟩ | ⟨g, cap, cur, hv, hb2, hg, hle, rest⟩
    · rw [hv] at e; injection e with e1 e2 e3; rw [hx] at e1; cases e1
    · rw [hv] at e; injection e with e1 e2 e3; rw [hx] at e1; injection e1 with e1; rw [← e1]; show z < g; omega

structure RsS (w wr : World) (act arr : Array Value) : Prop where
  g : w.grownBy wr none
  a : wr.heap[w.heap.size]? = some (.cells act 42 (0, 0))
  r : wr.heap[w.heap.size + 1]? = some (.cells #[.slice none 0 0, .slice none 0 0, .slice none 0 0, .slice none 0 0, .slice none 0 0, .slice none 0 0] 134 (0, 0))
  x : wr.heap[w.heap.size + 1 + 1]? = some (.cells arr 134 (0, 0))
theorem RsS.grown {w wr wr' : World} {act arr : Array Value} (h : RsS w wr act arr) (g : wr.grownBy wr' none) : RsS w wr' act arr :=
  ⟨grown_trans h.g g, (g.block _ (Array.getElem?_eq_some_iff.1 h.a).1 (by simp)).trans h.a, (g.block _ (Array.getElem?_eq_some_iff.1 h.r).1 (by simp)).trans h.r, (g.block _ (Array.getElem?_eq_some_iff.1 h.x).1 (by simp)).trans h.x⟩
theorem RsS.setc {w wr : World} {act arr arr' : Array Value} (h : RsS w wr act arr) (i : Nat) (u : Value) (e : arr.setIfInBounds i u = arr') : RsS w (wr.setCell ⟨w.heap.size + 1 + 1, i, none⟩ u) act arr' := by
  have hx := h.x
  refine ⟨?_, ?_, ?_, ?_⟩
  · have hb : w.heap.size ≤ w.heap.size + 1 + 1 := by omega
    exact ⟨h.g.os, h.g.tape, h.g.output, by have := h.g.size; simp [World.setCell]; omega, fun k hk _ => by
      rw [Below.heap_setCell _ _ _ _ (by show k ≠ w.heap.size + 1 + 1; omega)]; exact h.g.block k hk (by simp)⟩
  · rw [Below.heap_setCell _ _ _ _ (by show w.heap.size ≠ w.heap.size + 1 + 1; omega)]; exact h.a
  · rw [Below.heap_setCell _ _ _ _ (by show w.heap.size + 1 ≠ w.heap.size + 1 + 1; omega)]; exact h.r
  · rw [← e]
    simp [World.setCell, Array.getElem?_modify, hx]

set_option maxRecDepth 100000 in
set_option maxHeartbeats 3200000 in
theorem rstreams_any (nm : ByteArray) (sp st : Int) (so : Option Addr) (sc : Nat) (ss : List Smp) (lo : Option Addr) (lc : Nat) (ls : List LapV) (to_ : Option Addr) (tc : Nat) (ts : List ByteArray) (n : Nat) (w : World)
    (HA : Hid (ActAt w ⟨nm, sp, st, so, sc, ss, lo, lc, ls, to_, tc, ts⟩)) (HCE : Hid (chkE ⟨nm, sp, st, so, sc, ss, lo, lc, ls, to_, tc, ts⟩ = 0)) (HS : Hid (SOk ss)) (HN : Hid (spanL ss = (n : Int))) :
    Calls Try.prog 101 #[.agg #[.string nm, .int .i64 sp, .int .i64 st, .slice so ss.length sc, .slice lo ls.length lc, .slice to_ ts.length tc]] w fun e w' => (∃ v1 v2 v3 v4 v5, e = .returned (.agg #[.slice none 0 0, v1, v2, v3, v4, v5]) ∧ Gd (w.heap.size + 1 + 1) ss n 1 w' v1 ∧ Gd (w.heap.size + 1 + 1) ss n 2 w' v2 ∧ Gd (w.heap.size + 1 + 1) ss n 3 w' v3 ∧ Gd (w.heap.size + 1 + 1) ss n 4 w' v4 ∧ Gd (w.heap.size + 1 + 1) ss n 5 w' v5) ∧ w.grownBy w' none := by
  go_enter Try.func101, Try.ntmps101
  go_wp2_with fail
  have P0 : Hid (RsS w (((w.alloc (.cells #[.string nm, .int .i64 sp, .int .i64 st, .slice so ss.length sc, .slice lo ls.length lc, .slice to_ ts.length tc] 42)).alloc (.cells #[.slice none 0 0, .slice none 0 0, .slice none 0 0, .slice none 0 0, .slice none 0 0, .slice none 0 0] 134)).alloc (.cells #[.slice none 0 0, .slice none 0 0, .slice none 0 0, .slice none 0 0, .slice none 0 0, .slice none 0 0] 134)) #[.string nm, .int .i64 sp, .int .i64 st, .slice so ss.length sc, .slice lo ls.length lc, .slice to_ ts.length tc] #[.slice none 0 0, .slice none 0 0, .slice none 0 0, .slice none 0 0, .slice none 0 0, .slice none 0 0]) := by
    refine ⟨grown_trans (grown_trans (World.grownBy_alloc _ _ _) (World.grownBy_alloc _ _ _)) (World.grownBy_alloc _ _ _), ?_, ?_, ?_⟩
    · rw [Below.heap_alloc _ _ _ (by simp; omega), Below.heap_alloc _ _ _ (by simp)]
      have q := heap_alloc_new w (.cells #[.string nm, .int .i64 sp, .int .i64 st, .slice so ss.length sc, .slice lo ls.length lc, .slice to_ ts.length tc] 42)
      simpa using q
    · rw [Below.heap_alloc _ _ _ (by simp)]
      have q := heap_alloc_new (w.alloc (.cells #[.string nm, .int .i64 sp, .int .i64 st, .slice so ss.length sc, .slice lo ls.length lc, .slice to_ ts.length tc] 42)) (.cells #[.slice none 0 0, .slice none 0 0, .slice none 0 0, .slice none 0 0, .slice none 0 0, .slice none 0 0] 134)
      simpa using q
    · have q := heap_alloc_new ((w.alloc (.cells #[.string nm, .int .i64 sp, .int .i64 st, .slice so ss.length sc, .slice lo ls.length lc, .slice to_ ts.length tc] 42)).alloc (.cells #[.slice none 0 0, .slice none 0 0, .slice none 0 0, .slice none 0 0, .slice none 0 0, .slice none 0 0] 134)) (.cells #[.slice none 0 0, .slice none 0 0, .slice none 0 0, .slice none 0 0, .slice none 0 0, .slice none 0 0] 134)
      simpa using q
  go_loopw [4] (fun iv wr => ∃ (k : Nat) (v1 v2 v3 v4 v5 : Value), iv = .int .i64 k ∧ 1 ≤ k ∧ k ≤ 6 ∧ Hid (RsS w wr #[.string nm, .int .i64 sp, .int .i64 st, .slice so ss.length sc, .slice lo ls.length lc, .slice to_ ts.length tc] #[.slice none 0 0, v1, v2, v3, v4, v5]) ∧ Hid (1 < k → Gd (w.heap.size + 1 + 1) ss n 1 wr v1) ∧ Hid (2 < k → Gd (w.heap.size + 1 + 1) ss n 2 wr v2) ∧ Hid (3 < k → Gd (w.heap.size + 1 + 1) ss n 3 wr v3) ∧ Hid (4 < k → Gd (w.heap.size + 1 + 1) ss n 4 wr v4) ∧ Hid (5 < k → Gd (w.heap.size + 1 + 1) ss n 5 wr v5))
    (fun iv _ => 6 - (intOf iv).toNat)
  case atStart => exact ⟨1, _, _, _, _, _, rfl, by omega, by omega, P0.out, fun h => (by omega), fun h => (by omega), fun h => (by omega), fun h => (by omega), fun h => (by omega)⟩
  case round =>
    obtain ⟨k, v1, v2, v3, v4, v5, rfl, k1, k6, hp, g1, g2, g3, g4, g5⟩ := hrel
    have hpa := hp.out.a
    have b0 : wr.cell? ⟨w.heap.size, 0, none⟩ = some (.string nm) := by simp [World.cell?, hpa]
    have b1 : wr.cell? ⟨w.heap.size, 1, none⟩ = some (.int .i64 sp) := by simp [World.cell?, hpa]
    have b2 : wr.cell? ⟨w.heap.size, 2, none⟩ = some (.int .i64 st) := by simp [World.cell?, hpa]
    have b3 : wr.cell? ⟨w.heap.size, 3, none⟩ = some (.slice so ss.length sc) := by simp [World.cell?, hpa]
    have b4 : wr.cell? ⟨w.heap.size, 4, none⟩ = some (.slice lo ls.length lc) := by simp [World.cell?, hpa]
    have b5 : wr.cell? ⟨w.heap.size, 5, none⟩ = some (.slice to_ ts.length tc) := by simp [World.cell?, hpa]
    clear hpa
    have hk : k = 1 ∨ k = 2 ∨ k = 3 ∨ k = 4 ∨ k = 5 ∨ k = 6 := by omega
    rcases hk with rfl | rfl | rfl | rfl | rfl | rfl
    · go_wp2_with fail
      refine (RStream_ok nm sp st so sc ss lo lc ls to_ tc ts 1 (by omega) (by omega) _ (Lib.hid (HA.out.grown (by first | exact hp.out.g | exact grown_trans hp.out.g (grown_drewN _ _ 1)))) HCE HS).mono ?_; rintro e w2 ⟨⟨v, rfl, ho⟩, hg2⟩
      have hsz : w.heap.size + 1 + 1 < wr.heap.size := (Array.getElem?_eq_some_iff.1 hp.out.x).1
      have HG2 : Hid (wr.grownBy w2 none) := by first | exact hg2 | exact grown_trans (grown_drewN _ _ 1) hg2
      have HV : Hid (Gd (w.heap.size + 1 + 1) ss n 1 w2 v) := gd_own HS.out HN.out ho (by first | omega | (simp [World.drewN, World.drew]; omega))
      have P2 := Lib.hid (hp.out.grown HG2.out)
      have hx := P2.out.x
      have xk : w2.cell? ⟨w.heap.size + 1 + 1, 1, none⟩ = some v1 := by simp [World.cell?, hx]
      have fk : w2.frozen? ⟨w.heap.size + 1 + 1, 1, none⟩ = false := by simp [World.frozen?, hx]
      obtain ⟨ao, cc, hvv, _⟩ := HV.out
      subst hvv
      clear ho hg2 hx b0 b1 b2 b3 b4 b5
      go_wp2_with fail
      go_roundw
      case rel => exact ⟨2, _, v2, v3, v4, v5, by go_num, by omega, by omega, P2.out.setc 1 _ rfl, fun _ => HV.out.setc 1 _, fun h => (by omega), fun h => (by omega), fun h => (by omega), fun h => (by omega)⟩
      case measure => simp [intOf]
    · go_wp2_with fail
      refine (RStream_ok nm sp st so sc ss lo lc ls to_ tc ts 2 (by omega) (by omega) _ (Lib.hid (HA.out.grown (by first | exact hp.out.g | exact grown_trans hp.out.g (grown_drewN _ _ 1)))) HCE HS).mono ?_; rintro e w2 ⟨⟨v, rfl, ho⟩, hg2⟩
      have hsz : w.heap.size + 1 + 1 < wr.heap.size := (Array.getElem?_eq_some_iff.1 hp.out.x).1
      have HG2 : Hid (wr.grownBy w2 none) := by first | exact hg2 | exact grown_trans (grown_drewN _ _ 1) hg2
      have HV : Hid (Gd (w.heap.size + 1 + 1) ss n 2 w2 v) := gd_own HS.out HN.out ho (by first | omega | (simp [World.drewN, World.drew]; omega))
      have P2 := Lib.hid (hp.out.grown HG2.out)
      have hx := P2.out.x
      have xk : w2.cell? ⟨w.heap.size + 1 + 1, 2, none⟩ = some v2 := by simp [World.cell?, hx]
      have fk : w2.frozen? ⟨w.heap.size + 1 + 1, 2, none⟩ = false := by simp [World.frozen?, hx]
      obtain ⟨ao, cc, hvv, _⟩ := HV.out
      subst hvv
      clear ho hg2 hx b0 b1 b2 b3 b4 b5
      go_wp2_with fail
      go_roundw
      case rel => exact ⟨3, v1, _, v3, v4, v5, by go_num, by omega, by omega, P2.out.setc 2 _ rfl, fun _ => ((g1.out (by omega)).grown HG2.out).setc 2 _, fun _ => HV.out.setc 2 _, fun h => (by omega), fun h => (by omega), fun h => (by omega)⟩
      case measure => simp [intOf]
    · go_wp2_with fail
      refine (RStream_ok nm sp st so sc ss lo lc ls to_ tc ts 3 (by omega) (by omega) _ (Lib.hid (HA.out.grown (by first | exact hp.out.g | exact grown_trans hp.out.g (grown_drewN _ _ 1)))) HCE HS).mono ?_; rintro e w2 ⟨⟨v, rfl, ho⟩, hg2⟩
      have hsz : w.heap.size + 1 + 1 < wr.heap.size := (Array.getElem?_eq_some_iff.1 hp.out.x).1
      have HG2 : Hid (wr.grownBy w2 none) := by first | exact hg2 | exact grown_trans (grown_drewN _ _ 1) hg2
      have HV : Hid (Gd (w.heap.size + 1 + 1) ss n 3 w2 v) := gd_own HS.out HN.out ho (by first | omega | (simp [World.drewN, World.drew]; omega))
      have P2 := Lib.hid (hp.out.grown HG2.out)
      have hx := P2.out.x
      have xk : w2.cell? ⟨w.heap.size + 1 + 1, 3, none⟩ = some v3 := by simp [World.cell?, hx]
      have fk : w2.frozen? ⟨w.heap.size + 1 + 1, 3, none⟩ = false := by simp [World.frozen?, hx]
      obtain ⟨ao, cc, hvv, _⟩ := HV.out
      subst hvv
      clear ho hg2 hx b0 b1 b2 b3 b4 b5
      go_wp2_with fail
      go_roundw
      case rel => exact ⟨4, v1, v2, _, v4, v5, by go_num, by omega, by omega, P2.out.setc 3 _ rfl, fun _ => ((g1.out (by omega)).grown HG2.out).setc 3 _, fun _ => ((g2.out (by omega)).grown HG2.out).setc 3 _, fun _ => HV.out.setc 3 _, fun h => (by omega), fun h => (by omega)⟩
      case measure => simp [intOf]
    · go_wp2_with fail
      refine (RStream_ok nm sp st so sc ss lo lc ls to_ tc ts 4 (by omega) (by omega) _ (Lib.hid (HA.out.grown (by first | exact hp.out.g | exact grown_trans hp.out.g (grown_drewN _ _ 1)))) HCE HS).mono ?_; rintro e w2 ⟨⟨v, rfl, ho⟩, hg2⟩
      have hsz : w.heap.size + 1 + 1 < wr.heap.size := (Array.getElem?_eq_some_iff.1 hp.out.x).1
      have HG2 : Hid (wr.grownBy w2 none) := by first | exact hg2 | exact grown_trans (grown_drewN _ _ 1) hg2
      have HV : Hid (Gd (w.heap.size + 1 + 1) ss n 4 w2 v) := gd_own HS.out HN.out ho (by first | omega | (simp [World.drewN, World.drew]; omega))
      have P2 := Lib.hid (hp.out.grown HG2.out)
      have hx := P2.out.x
      have xk : w2.cell? ⟨w.heap.size + 1 + 1, 4, none⟩ = some v4 := by simp [World.cell?, hx]
      have fk : w2.frozen? ⟨w.heap.size + 1 + 1, 4, none⟩ = false := by simp [World.frozen?, hx]
      obtain ⟨ao, cc, hvv, _⟩ := HV.out
      subst hvv
      clear ho hg2 hx b0 b1 b2 b3 b4 b5
      go_wp2_with fail
      go_roundw
      case rel => exact ⟨5, v1, v2, v3, _, v5, by go_num, by omega, by omega, P2.out.setc 4 _ rfl, fun _ => ((g1.out (by omega)).grown HG2.out).setc 4 _, fun _ => ((g2.out (by omega)).grown HG2.out).setc 4 _, fun _ => ((g3.out (by omega)).grown HG2.out).setc 4 _, fun _ => HV.out.setc 4 _, fun h => (by omega)⟩
      case measure => simp [intOf]
    · go_wp2_with fail
      refine (RStream_ok nm sp st so sc ss lo lc ls to_ tc ts 5 (by omega) (by omega) _ (Lib.hid (HA.out.grown (by first | exact hp.out.g | exact grown_trans hp.out.g (grown_drewN _ _ 1)))) HCE HS).mono ?_; rintro e w2 ⟨⟨v, rfl, ho⟩, hg2⟩
      have hsz : w.heap.size + 1 + 1 < wr.heap.size := (Array.getElem?_eq_some_iff.1 hp.out.x).1
      have HG2 : Hid (wr.grownBy w2 none) := by first | exact hg2 | exact grown_trans (grown_drewN _ _ 1) hg2
      have HV : Hid (Gd (w.heap.size + 1 + 1) ss n 5 w2 v) := gd_own HS.out HN.out ho (by first | omega | (simp [World.drewN, World.drew]; omega))
      have P2 := Lib.hid (hp.out.grown HG2.out)
      have hx := P2.out.x
      have xk : w2.cell? ⟨w.heap.size + 1 + 1, 5, none⟩ = some v5 := by simp [World.cell?, hx]
      have fk : w2.frozen? ⟨w.heap.size + 1 + 1, 5, none⟩ = false := by simp [World.frozen?, hx]
      obtain ⟨ao, cc, hvv, _⟩ := HV.out
      subst hvv
      clear ho hg2 hx b0 b1 b2 b3 b4 b5
      go_wp2_with fail
      go_roundw
      case rel => exact ⟨6, v1, v2, v3, v4, _, by go_num, by omega, by omega, P2.out.setc 5 _ rfl, fun _ => ((g1.out (by omega)).grown HG2.out).setc 5 _, fun _ => ((g2.out (by omega)).grown HG2.out).setc 5 _, fun _ => ((g3.out (by omega)).grown HG2.out).setc 5 _, fun _ => ((g4.out (by omega)).grown HG2.out).setc 5 _, fun _ => HV.out.setc 5 _⟩
      case measure => simp [intOf]
    · have hx := hp.out.x; have hr := hp.out.r
      have x0 : wr.cell? ⟨w.heap.size + 1 + 1, 0, none⟩ = some (.slice none 0 0) := by simp [World.cell?, hx]
      have r0 : wr.cell? ⟨w.heap.size + 1, 0, none⟩ = some (.slice none 0 0) := by simp [World.cell?, hr]
      have e0 : wr.frozen? ⟨w.heap.size + 1, 0, none⟩ = false := by simp [World.frozen?, hr]
      have x1 : wr.cell? ⟨w.heap.size + 1 + 1, 1, none⟩ = some (v1) := by simp [World.cell?, hx]
      have r1 : wr.cell? ⟨w.heap.size + 1, 1, none⟩ = some (.slice none 0 0) := by simp [World.cell?, hr]
      have e1 : wr.frozen? ⟨w.heap.size + 1, 1, none⟩ = false := by simp [World.frozen?, hr]
      have x2 : wr.cell? ⟨w.heap.size + 1 + 1, 2, none⟩ = some (v2) := by simp [World.cell?, hx]
      have r2 : wr.cell? ⟨w.heap.size + 1, 2, none⟩ = some (.slice none 0 0) := by simp [World.cell?, hr]
      have e2 : wr.frozen? ⟨w.heap.size + 1, 2, none⟩ = false := by simp [World.frozen?, hr]
      have x3 : wr.cell? ⟨w.heap.size + 1 + 1, 3, none⟩ = some (v3) := by simp [World.cell?, hx]
      have r3 : wr.cell? ⟨w.heap.size + 1, 3, none⟩ = some (.slice none 0 0) := by simp [World.cell?, hr]
      have e3 : wr.frozen? ⟨w.heap.size + 1, 3, none⟩ = false := by simp [World.frozen?, hr]
      have x4 : wr.cell? ⟨w.heap.size + 1 + 1, 4, none⟩ = some (v4) := by simp [World.cell?, hx]
      have r4 : wr.cell? ⟨w.heap.size + 1, 4, none⟩ = some (.slice none 0 0) := by simp [World.cell?, hr]
      have e4 : wr.frozen? ⟨w.heap.size + 1, 4, none⟩ = false := by simp [World.frozen?, hr]
      have x5 : wr.cell? ⟨w.heap.size + 1 + 1, 5, none⟩ = some (v5) := by simp [World.cell?, hx]
      have r5 : wr.cell? ⟨w.heap.size + 1, 5, none⟩ = some (.slice none 0 0) := by simp [World.cell?, hr]
      have e5 : wr.frozen? ⟨w.heap.size + 1, 5, none⟩ = false := by simp [World.frozen?, hr]
      have HR := Lib.hid hr
      have HG := Lib.hid hp.out.g
      have D1 := Lib.hid (g1.out (by omega))
      obtain ⟨ao1, cc1, hv1, _⟩ := D1.out
      subst hv1
      have D2 := Lib.hid (g2.out (by omega))
      obtain ⟨ao2, cc2, hv2, _⟩ := D2.out
      subst hv2
      have D3 := Lib.hid (g3.out (by omega))
      obtain ⟨ao3, cc3, hv3, _⟩ := D3.out
      subst hv3
      have D4 := Lib.hid (g4.out (by omega))
      obtain ⟨ao4, cc4, hv4, _⟩ := D4.out
      subst hv4
      have D5 := Lib.hid (g5.out (by omega))
      obtain ⟨ao5, cc5, hv5, _⟩ := D5.out
      subst hv5
      clear hx hr hp b0 b1 b2 b3 b4 b5 g1 g2 g3 g4 g5
      go_wp2_with fail
      obtain ⟨W1, hW1⟩ : ∃ W1, ((((((wr.setCell ⟨w.heap.size + 1, 0, none⟩ (.slice none 0 0)).setCell ⟨w.heap.size + 1, 1, none⟩ (.slice ao1 n cc1)).setCell ⟨w.heap.size + 1, 2, none⟩ (.slice ao2 n cc2)).setCell ⟨w.heap.size + 1, 3, none⟩ (.slice ao3 n cc3)).setCell ⟨w.heap.size + 1, 4, none⟩ (.slice ao4 n cc4)).setCell ⟨w.heap.size + 1, 5, none⟩ (.slice ao5 n cc5)) = W1 := ⟨_, rfl⟩
      have hR1 : W1.heap[w.heap.size + 1]? = some (.cells #[.slice none 0 0, .slice ao1 n cc1, .slice ao2 n cc2, .slice ao3 n cc3, .slice ao4 n cc4, .slice ao5 n cc5] 134 (0, 0)) := by
        rw [← hW1]; have := HR.out; simp [World.setCell, Array.getElem?_modify, this]
      have hg1 : w.grownBy W1 none := by rw [← hW1]; exact (grown_setR (grown_setR (grown_setR (grown_setR (grown_setR (grown_setR HG.out _ _) _ _) _ _) _ _) _ _) _ _)
      have d1 : Gd (w.heap.size + 1 + 1) ss n 1 W1 (.slice ao1 n cc1) := by rw [← hW1]; exact (Gd.setd (by omega) (Gd.setd (by omega) (Gd.setd (by omega) (Gd.setd (by omega) (Gd.setd (by omega) (Gd.setd (by omega) D1.out _ _) _ _) _ _) _ _) _ _) _ _)
      have d2 : Gd (w.heap.size + 1 + 1) ss n 2 W1 (.slice ao2 n cc2) := by rw [← hW1]; exact (Gd.setd (by omega) (Gd.setd (by omega) (Gd.setd (by omega) (Gd.setd (by omega) (Gd.setd (by omega) (Gd.setd (by omega) D2.out _ _) _ _) _ _) _ _) _ _) _ _)
      have d3 : Gd (w.heap.size + 1 + 1) ss n 3 W1 (.slice ao3 n cc3) := by rw [← hW1]; exact (Gd.setd (by omega) (Gd.setd (by omega) (Gd.setd (by omega) (Gd.setd (by omega) (Gd.setd (by omega) (Gd.setd (by omega) D3.out _ _) _ _) _ _) _ _) _ _) _ _)
      have d4 : Gd (w.heap.size + 1 + 1) ss n 4 W1 (.slice ao4 n cc4) := by rw [← hW1]; exact (Gd.setd (by omega) (Gd.setd (by omega) (Gd.setd (by omega) (Gd.setd (by omega) (Gd.setd (by omega) (Gd.setd (by omega) D4.out _ _) _ _) _ _) _ _) _ _) _ _)
      have d5 : Gd (w.heap.size + 1 + 1) ss n 5 W1 (.slice ao5 n cc5) := by rw [← hW1]; exact (Gd.setd (by omega) (Gd.setd (by omega) (Gd.setd (by omega) (Gd.setd (by omega) (Gd.setd (by omega) (Gd.setd (by omega) D5.out _ _) _ _) _ _) _ _) _ _) _ _)
      have z0 : W1.cell? ⟨w.heap.size + 1, 0, none⟩ = some (.slice none 0 0) := by simp [World.cell?, hR1]
      have z1 : W1.cell? ⟨w.heap.size + 1, 1, none⟩ = some (.slice ao1 n cc1) := by simp [World.cell?, hR1]
      have z2 : W1.cell? ⟨w.heap.size + 1, 2, none⟩ = some (.slice ao2 n cc2) := by simp [World.cell?, hR1]
      have z3 : W1.cell? ⟨w.heap.size + 1, 3, none⟩ = some (.slice ao3 n cc3) := by simp [World.cell?, hR1]
      have z4 : W1.cell? ⟨w.heap.size + 1, 4, none⟩ = some (.slice ao4 n cc4) := by simp [World.cell?, hR1]
      have z5 : W1.cell? ⟨w.heap.size + 1, 5, none⟩ = some (.slice ao5 n cc5) := by simp [World.cell?, hR1]
      rw [hW1]
      clear hW1
      refine bodyPost_ret (v := .agg #[.slice none 0 0, .slice ao1 n cc1, .slice ao2 n cc2, .slice ao3 n cc3, .slice ao4 n cc4, .slice ao5 n cc5]) (by simp [results, Try.results101, go_sem, z0, z1, z2, z3, z4, z5]) rfl ⟨⟨_, _, _, _, _, rfl, d1, d2, d3, d4, d5⟩, hg1⟩
end Go.Proofs.Ytmfnphknoclhfaa
