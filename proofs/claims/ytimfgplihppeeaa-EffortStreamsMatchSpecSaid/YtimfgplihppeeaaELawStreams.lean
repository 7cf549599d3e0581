/- For all activities and kinds, Stream returns what the reference returns, and it is a stream: the walk. -/
import Derived.Test.YtimfgplihppeeaaEStream
import Derived.Test.YtimfgplihppeeaaERStream
import Derived.Test.YtimfgplihppeeaaETold
import Derived.Test.YtimfgplihppeeaaShelf
namespace Go.Proofs.Ytimfgplihppeeaa
open Go.RowKit

/-- A list of numbers as a slice: where it lies. -/
theorem own_nums {w : World} {base : Nat} {v : Value} {L : List Int} (h : w.ownsRow base 3 1 v L.length (ints L)) : ∃ ao cap, v = .slice ao L.length cap ∧ IntsC w ao L.length (nthI L) ∧ IntsAt w ao L := by
  rcases h.2 with ⟨hv, h0⟩ | ⟨g, cap, cur, hv, hb, hg, rest⟩
  · have hL : L = [] := List.eq_nil_of_length_eq_zero h0
    exact ⟨none, 0, by rw [hv, h0], fun j hj => absurd hj (by omega), ⟨fun _ => hL, fun a h => (by cases h), fun a h => (by cases h)⟩⟩
  · have hc : ∀ j, j < L.length → w.cell? ⟨g, j, none⟩ = some (.int .i64 (nthI L j)) := fun j hj => by
      have := h.cells (g := g) (by rw [hv]; rfl) j (.int .i64 (nthI L j)) (by
        unfold ints
        rw [List.getElem?_map, List.getElem?_eq_getElem hj, nthI_at hj]; rfl)
      have e : (⟨g, 0, none⟩ : Addr).add j = ⟨g, j, none⟩ := by unfold Addr.add; split <;> simp_all
      rw [e] at this; exact this
    refine ⟨some ⟨g, 0, none⟩, cap, hv, fun j hj => ⟨g, rfl, hc j hj⟩, ⟨fun h => (by cases h), fun a h _ => (by cases h; rfl), fun a h j hj => ?_⟩⟩
    cases h
    simpa using hc j hj

theorem equal_nums {w : World} {ao1 ao2 : Option Addr} {n c1 c2 : Nat} {F G : Nat → Int} (h1 : IntsC w ao1 n F) (h2 : IntsC w ao2 n G) (hFG : ∀ j, j < n → F j = G j) (hn : n ≤ 9223372036854775807) :
    Calls Try.prog 34 #[.slice ao1 n c1, .slice ao2 n c2] w fun e w' => e = .returned (.bool true) ∧ w.grownBy w' none := by
  rcases Nat.eq_zero_or_pos n with h0 | h0
  · subst h0
    refine (Try.slices_Equal_int_empty ao1 ao2 c1 0 c2 w (by omega)).mono ?_
    rintro e w' ⟨rfl, rfl⟩
    exact ⟨rfl, grown_refl _ _⟩
  · obtain ⟨g1, rfl, _⟩ := h1 0 h0
    obtain ⟨g2, rfl, _⟩ := h2 0 h0
    have hc1 : ∀ j, j < n → w.cell? ⟨g1, j, none⟩ = some (.int .i64 (F j)) := fun j hj => by
      obtain ⟨g, e, h⟩ := h1 j hj
      injection e with e; injection e with e1 _ _; subst e1; exact h
    have hc2 : ∀ j, j < n → w.cell? ⟨g2, j, none⟩ = some (.int .i64 (F j)) := fun j hj => by
      obtain ⟨g, e, h⟩ := h2 j hj
      injection e with e; injection e with e1 _ _; subst e1; rw [hFG j hj]; exact h
    have hlen : ((List.range n).map F).length = n := by simp
    refine (Try.slices_Equal_int g1 0 n c1 g2 0 n c2 ((List.range n).map F) ((List.range n).map F) w (by omega) (by omega) hn hn (fun j hj => ?_) (fun j hj => ?_)).mono ?_
    · rw [hlen] at hj
      rw [List.getD_eq_getElem?_getD]
      simpa [hj] using hc1 j hj
    · rw [hlen] at hj
      rw [List.getD_eq_getElem?_getD]
      simpa [hj] using hc2 j hj
    · rintro e w' ⟨rfl, q, rfl⟩
      exact ⟨by simp, grown_drewN _ _ _⟩


theorem stream_facts {a : Act} {kind : Int} {L : List Int} {E : Int} (h : streamOut a kind = (L, E)) : L.length ≤ 1000000 ∧ (E = 0 → streamE L = 0) := by
  unfold streamOut at h
  split at h
  · rename_i h0
    have hs := sok_of (chk_ok h0)
    split at h
    · simp only [Prod.mk.injEq] at h
      obtain ⟨rfl, rfl⟩ := h
      exact ⟨streamS_len hs, fun _ => streamS_ok hs⟩
    · simp only [Prod.mk.injEq] at h
      obtain ⟨rfl, rfl⟩ := h
      exact ⟨by simp, fun h => by omega⟩
  · rename_i h0
    simp only [Prod.mk.injEq] at h
    obtain ⟨rfl, rfl⟩ := h
    exact ⟨by simp, fun h => absurd h h0⟩

set_option maxRecDepth 100000 in
set_option maxHeartbeats 1600000 in
theorem streams_law (a : Act) (kind : Int) (w : World) (ha : ActAt w a) (hc : a.ss.length ≤ a.sc) :
    Calls Try.prog 9 #[a.val, .int .i64 kind] w fun e w' => e = .returned (.bool true) ∧ w.grownBy w' none := by
  rcases hwe : streamOut a kind with ⟨L, E⟩
  obtain ⟨hn, hse⟩ := stream_facts hwe
  have HWE := Lib.hid hwe; have HA := Lib.hid ha; have HN := Lib.hid hn; have HSE := Lib.hid hse
  clear hwe ha hc hn hse
  obtain ⟨nm, sp, st, so, sc, ss, lo, lc, ls, to_, tc, ts⟩ := a
  simp only [Act.val]
  go_enter Try.func9, Try.ntmps9
  have GB : Hid (w.grownBy (w.alloc (.cells #[.string nm, .int .i64 sp, .int .i64 st, .slice so ss.length sc, .slice lo ls.length lc, .slice to_ ts.length tc] 26)) none) := World.grownBy_alloc _ _ _
  go_wp2_with fail
  refine (Stream_any ⟨nm, sp, st, so, sc, ss, lo, lc, ls, to_, tc, ts⟩ kind _ (HA.out.grown GB.out) HWE).mono ?_; rintro x w1 ⟨⟨v1, rfl, ho1⟩, hg1⟩
  obtain ⟨ao1, c1, rfl, i1, j1⟩ := own_nums ho1
  have HI1 := Lib.hid i1; have HJ1 := Lib.hid j1
  have K := Lib.hid hg1
  clear ho1 hg1 i1 j1
  have a0 : w1.cell? ⟨w.heap.size, 0, none⟩ = some (.string nm) := grown_cell K.out (by go_simp)
  have a1 : w1.cell? ⟨w.heap.size, 1, none⟩ = some (.int .i64 sp) := grown_cell K.out (by go_simp)
  have a2 : w1.cell? ⟨w.heap.size, 2, none⟩ = some (.int .i64 st) := grown_cell K.out (by go_simp)
  have a3 : w1.cell? ⟨w.heap.size, 3, none⟩ = some (.slice so ss.length sc) := grown_cell K.out (by go_simp)
  have a4 : w1.cell? ⟨w.heap.size, 4, none⟩ = some (.slice lo ls.length lc) := grown_cell K.out (by go_simp)
  have a5 : w1.cell? ⟨w.heap.size, 5, none⟩ = some (.slice to_ ts.length tc) := grown_cell K.out (by go_simp)
  go_wp2_with fail
  refine (RStream_any ⟨nm, sp, st, so, sc, ss, lo, lc, ls, to_, tc, ts⟩ kind _ (HA.out.grown (grown_trans GB.out K.out)) HWE).mono ?_; rintro x w2 ⟨⟨v2, rfl, ho2⟩, hg2⟩
  obtain ⟨ao2, c2, rfl, i2, j2⟩ := own_nums ho2
  have HI2 := Lib.hid i2
  have HI1' := Lib.hid (HI1.out.grown hg2)
  have HJ1' := Lib.hid (HJ1.out.grown hg2)
  replace K := Lib.hid (grown_trans K.out hg2)
  clear a0 a1 a2 a3 a4 a5 ho2 hg2 HI1 HJ1 i2 j2
  go_wp2_with fail
  refine (equal_nums HI1'.out HI2.out (fun _ _ => rfl) (by have := HN.out; omega)).mono ?_; rintro x w3 ⟨rfl, hg3⟩
  have HJ3 := Lib.hid (HJ1'.out.grown hg3)
  replace K := Lib.hid (grown_trans K.out hg3)
  clear hg3 HI1' HI2 HJ1'
  by_cases hE : E = 0
  · subst hE
    have HS0 := Lib.hid (HSE.out rfl)
    go_wp2_with fail
    refine (checkStream_any ao1 c1 L (by have := HN.out; omega) w3 HJ3.out HS0).mono ?_; rintro e w4 ⟨rfl, rfl⟩
    go_wp2_with fail
    refine (etold_any _).mono ?_; rintro x w5 ⟨rfl, hg5⟩
    replace K := Lib.hid (grown_trans K.out hg5)
    clear hg5
    go_wp2_with fail
    go_ret
    exact ⟨by first | rfl | simp, grown_trans GB.out K.out⟩
  · have hne : (E != 0) = true := by simpa using hE
    go_wp2_with fail
    refine (etold_any _).mono ?_; rintro x w5 ⟨rfl, hg5⟩
    replace K := Lib.hid (grown_trans K.out hg5)
    clear hg5
    go_wp2_with fail
    go_ret
    exact ⟨by first | rfl | simp, grown_trans GB.out K.out⟩

end Go.Proofs.Ytimfgplihppeeaa
