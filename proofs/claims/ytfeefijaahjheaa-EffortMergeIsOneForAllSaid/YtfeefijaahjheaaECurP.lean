/- Curves of streams: sizes and their checks of both sides, lists of best windows in memory. -/
import Derived.Test.YtfeefijaahjheaaERising
import Derived.Test.YtfeefijaahjheaaETold
import Derived.Test.YtfeefijaahjheaaFSumP
import Derived.Deep.OwnRows
import Derived.OwnWalk
namespace Go.Proofs.Ytfeefijaahjheaa
open Go.RowKit
set_option linter.unusedSimpArgs false
set_option linter.unusedVariables false

def sizesE (l : List Int) : Int := if l.length = 0 then 13 else if (l.length : Int) ≤ 100 then risingE 1 1000000 none l else 3
theorem rising_in {lo hi : Int} : ∀ {l : List Int} {p : Option Int}, risingE lo hi p l = 0 → ∀ x ∈ l, lo ≤ x ∧ x ≤ hi
  | [], _, _, x, hx => by simp at hx
  | y :: r, p, h, x, hx => by
    unfold risingE at h
    split at h
    · rename_i hy
      split at h
      · omega
      · rcases List.mem_cons.1 hx with rfl | hx
        · exact hy
        · exact rising_in h x hx
    · omega
theorem sizes_ok {l : List Int} (h : sizesE l = 0) : (l.length : Int) ≤ 100 ∧ 0 < l.length ∧ ∀ k, k < l.length → 1 ≤ nthI l k ∧ nthI l k ≤ 1000000 := by
  unfold sizesE at h
  split at h
  · omega
  · rename_i h0
    split at h
    · rename_i h1
      exact ⟨h1, by omega, fun k hk => by rw [nthI_at hk]; exact rising_in h _ (List.getElem_mem hk)⟩
    · omega

theorem checkSizes_any (ao : Option Addr) (cap : Nat) (l : List Int) (hl : (l.length : Int) ≤ 9223372036854775807) (w : World) (hs : IntsAt w ao l) {E : Int} (hE : Hid (sizesE l = E)) :
    Calls Try.prog 23 #[.slice ao l.length cap] w fun e w' => e = .returned (.int .i64 E) ∧ w = w' := by
  have hv := hE.out
  unfold sizesE at hv
  clear hE
  by_cases h0 : l.length = 0
  · rw [if_pos h0] at hv
    have h1 : ((l.length : Int) == 0) = true := by simp [h0]
    have HV := Lib.hid hv
    clear hv h0
    go_enter Try.func23, Try.ntmps23
    go_wp2_with fail
    go_ret
    exact ⟨ret_int HV.out, rfl⟩
  · rw [if_neg h0] at hv
    have h1 : ((l.length : Int) == 0) = false := by simp [h0]
    by_cases h : (l.length : Int) ≤ 100
    · rw [if_pos h] at hv
      have HV := Lib.hid hv
      have h2 : (l.length : Int) ≤ 1000000 := by omega
      have h3 : ¬ (100 : Int) < (l.length : Int) := by omega
      clear hv h0
      go_enter Try.func23, Try.ntmps23
      go_wp2_with (go_at_call 59; refine (checkRising_any _ _ _ _ _ h2 _ hs HV).mono ?_; rintro e w1 ⟨rfl, rfl⟩)
      go_ret
      exact ⟨rfl, rfl⟩
    · rw [if_neg h] at hv
      have HV := Lib.hid hv
      have h3 : (100 : Int) < (l.length : Int) := by omega
      clear hv h0
      go_enter Try.func23, Try.ntmps23
      go_wp2_with fail
      go_ret
      exact ⟨ret_int HV.out, rfl⟩

set_option maxHeartbeats 1600000 in
theorem rcheckSizes_any (ao : Option Addr) (cap : Nat) (l : List Int) (hl : (l.length : Int) ≤ 9223372036854775807) (w : World) (hs : IntsAt w ao l) {E : Int} (hE : Hid (sizesE l = E)) :
    Calls Try.prog 24 #[.slice ao l.length cap] w fun e w' => e = .returned (.int .i64 E) ∧ w = w' := by
  have HS := Lib.hid hs; clear hs
  have hv := hE.out
  unfold sizesE at hv
  clear hE
  by_cases h00 : l.length = 0
  · rw [if_pos h00] at hv
    have h1 : ((l.length : Int) == 0) = true := by simp [h00]
    have HV := Lib.hid hv
    clear hv h00
    go_enter Try.func24, Try.ntmps24
    go_wp2_with fail
    go_ret
    exact ⟨ret_int HV.out, rfl⟩
  rw [if_neg h00] at hv
  have h10 : ((l.length : Int) == 0) = false := by simp [h00]
  clear h00
  by_cases h : (l.length : Int) ≤ 100
  · rw [if_pos h] at hv
    have HE0 : Hid (risingE 1 1000000 none l = E) := hv
    clear hv
    go_enter Try.func24, Try.ntmps24
    go_wp2
    go_loopw [13] (fun iv wr => ∃ k : Nat, k ≤ l.length ∧ iv = .int .i64 k ∧ w = wr ∧ Hid (risingE 1 1000000 (prevI l k) (l.drop k) = E))
      (fun iv _ => l.length - (intOf iv).toNat)
    case atStart => exact ⟨0, Nat.zero_le _, rfl, rfl, HE0.out⟩
    case round =>
      obtain ⟨k, hk, rfl, rfl, hw⟩ := hrel
      by_cases hlt : k < l.length
      · obtain ⟨b, off, rfl, hc⟩ := HS.out.at (by omega)
        have c0 := hc k hlt
        have HW : Hid (_ = E) := Lib.hid ((risingE_at (lo := 1) (hi := 1000000) (p := prevI l k) hlt).symm.trans hw.out)
        clear hw
        by_cases b1 : nthI l k < 1
        · have HE : Hid (E = 9) := by show _ = _; rw [← HW.out, if_neg (by omega)]
          clear HW hc
          generalize nthI l k = x at *
          go_wp2
          go_ret
          exact ⟨ret_int HE.out.symm, rfl⟩
        by_cases b2 : 1000000 < nthI l k
        · have HE : Hid (E = 9) := by show _ = _; rw [← HW.out, if_neg (by omega)]
          clear HW hc
          generalize nthI l k = x at *
          go_wp2
          go_ret
          exact ⟨ret_int HE.out.symm, rfl⟩
        have a1 : 1 ≤ nthI l k ∧ nthI l k ≤ 1000000 := ⟨by omega, by omega⟩
        by_cases a2 : soonI (prevI l k) (nthI l k) = true
        · have HE : Hid (E = 10) := by show _ = _; rw [← HW.out, if_pos a1, if_pos a2]
          clear HW a1
          cases k with
          | zero => simp [prevI, soonI] at a2
          | succ m =>
            have c1 := hc m (by omega)
            have a3 : nthI l (m + 1) ≤ nthI l m := by simpa [prevI, soonI] using a2
            clear a2 hc
            generalize nthI l (m + 1) = x at *
            generalize nthI l m = y at *
            have em : ((m + 1 : Nat) : Int) - 1 = (m : Int) := by omega
            have rm : IntKind.i64.wrap (m : Int) = (m : Int) := IntWalk.i64_in _ (by omega)
            have hm : (m : Int) < (l.length : Int) := by omega
            have hm0 : (0 : Int) < ((m + 1 : Nat) : Int) := by omega
            go_wp2
            go_ret
            exact ⟨ret_int HE.out.symm, rfl⟩
        · have HE : Hid (risingE 1 1000000 (prevI l (k + 1)) (l.drop (k + 1)) = E) := by show _ = _; rw [← HW.out, if_pos a1, if_neg a2]
          clear HW a1
          cases k with
          | zero =>
            simp only [Nat.add_zero] at c0
            clear a2 hc
            generalize nthI l 0 = x at *
            go_wp2
            go_roundw
            case rel => exact ⟨1, by omega, by go_num, by first | rfl | trivial, HE⟩
            case measure => simp [intOf]; omega
          | succ m =>
            have c1 := hc m (by omega)
            have a3 : ¬ nthI l (m + 1) ≤ nthI l m := by simpa [prevI, soonI] using a2
            clear a2 hc
            generalize hx : nthI l (m + 1) = x at *
            generalize nthI l m = y at *
            have em : ((m + 1 : Nat) : Int) - 1 = (m : Int) := by omega
            have rm : IntKind.i64.wrap (m : Int) = (m : Int) := IntWalk.i64_in _ (by omega)
            have hm : (m : Int) < (l.length : Int) := by omega
            have hm0 : (0 : Int) < ((m + 1 : Nat) : Int) := by omega
            go_wp2
            go_roundw
            case rel => exact ⟨m + 1 + 1, by omega, by go_num, by first | rfl | trivial, HE⟩
            case measure => simp [intOf]; omega
      · have HE : Hid (E = 0) := by show _ = _; rw [← hw.out]; exact risingE_end (by omega)
        go_wp2
        go_ret
        exact ⟨ret_int HE.out.symm, rfl⟩
  · rw [if_neg h] at hv
    have HV := Lib.hid hv
    have h3 : (100 : Int) < (l.length : Int) := by omega
    clear hv
    go_enter Try.func24, Try.ntmps24
    go_wp2
    go_ret
    exact ⟨ret_int HV.out, rfl⟩

/-- A best window as it lies in memory. -/
structure BestV where
  sz : Int
  b : BSt
def bestCs (x : BestV) : List Value := [.int .i64 x.sz, .int .i64 x.b.sum, .int .i64 x.b.at_, .bool x.b.found]
def bestsVs (L : List BestV) : List Value := L.flatMap bestCs
theorem bestsVs_snoc (L : List BestV) (x : BestV) : bestsVs (L ++ [x]) = bestsVs L ++ bestCs x := by simp [bestsVs]
theorem bestCs_one (x : BestV) : ∀ u ∈ bestCs x, u.oneCell' = true := by
  intro u hu
  unfold bestCs at hu
  simp only [List.mem_cons, List.not_mem_nil, or_false] at hu
  rcases hu with rfl | rfl | rfl | rfl <;> rfl
theorem bestCs_new (w : World) (a b c : Int) (d : Bool) (t : TypeId) : ∀ j u, [Value.int .i64 a, .int .i64 b, .int .i64 c, .bool d][j]? = some u → (w.alloc (.cells #[.int .i64 a, .int .i64 b, .int .i64 c, .bool d] t)).cell? ((⟨w.heap.size, 0, none⟩ : Addr).add j) = some u := by
  intro j u hu
  have e : (⟨w.heap.size, 0, none⟩ : Addr).add j = ⟨w.heap.size, j, none⟩ := by unfold Addr.add; split <;> simp_all
  rw [e]
  have hh := heap_alloc_new w (.cells #[.int .i64 a, .int .i64 b, .int .i64 c, .bool d] t)
  exact (cell_of_row _ _ j _ _ (0, 0) hh).trans (by simpa using hu)
theorem info_best : (Try.prog.info? 24).map (fun i => (i.zero, i.size, i.bytes)) = some (some (.agg #[.int .i64 0, .int .i64 0, .int .i64 0, .bool false]), 4, 32) := by kernel_rfl

theorem bflat_at {α β : Type} (f : α → List β) (s : Nat) (hf : ∀ x, (f x).length = s) : ∀ (L : List α) (j i : Nat) (hj : j < L.length), i < s → (L.flatMap f)[j * s + i]? = (f L[j])[i]?
  | [], j, _, hj, _ => absurd hj (by simp)
  | x :: r, 0, i, _, hi => by
    rw [List.flatMap_cons, Nat.zero_mul, Nat.zero_add, List.getElem?_append_left (by rw [hf]; exact hi)]
    rfl
  | x :: r, j + 1, i, hj, hi => by
    have h := bflat_at f s hf r j i (by simpa using hj) hi
    rw [List.flatMap_cons, List.getElem?_append_right (by rw [hf, Nat.succ_mul]; omega), hf, show (j + 1) * s + i - s = j * s + i by rw [Nat.succ_mul]; omega, h]
    rfl
/-- A list of best windows as a slice: where it lies. -/
theorem own_bests {w : World} {base : Nat} {v : Value} {L : List BestV} (h : w.ownsRow base 24 4 v L.length (bestsVs L)) :
    ∃ ao cap, v = .slice ao L.length cap ∧ ∀ j (hj : j < L.length), ∃ g, ao = some ⟨g, 0, none⟩ ∧ w.cell? ⟨g, j * 4, none⟩ = some (.int .i64 L[j].sz) ∧ w.cell? ⟨g, j * 4 + 1, none⟩ = some (.int .i64 L[j].b.sum) ∧ w.cell? ⟨g, j * 4 + 2, none⟩ = some (.int .i64 L[j].b.at_) ∧ w.cell? ⟨g, j * 4 + 3, none⟩ = some (.bool L[j].b.found) := by
  rcases h.2 with ⟨hv, h0⟩ | ⟨g, cap, cur, hv, hb, hg, rest⟩
  · exact ⟨none, 0, by rw [hv, h0], fun j hj => absurd hj (by omega)⟩
  · refine ⟨some ⟨g, 0, none⟩, cap, hv, fun j hj => ⟨g, rfl, ?_⟩⟩
    have hc : ∀ (i : Nat) (u : Value), i < 4 → (bestCs L[j])[i]? = some u → w.cell? ⟨g, j * 4 + i, none⟩ = some u := fun i u hi hu => by
      have q := h.cells (g := g) (by rw [hv]; rfl) (j * 4 + i) u (by unfold bestsVs; rw [bflat_at bestCs 4 (fun _ => rfl) L j i hj hi]; exact hu)
      have e : (⟨g, 0, none⟩ : Addr).add (j * 4 + i) = ⟨g, j * 4 + i, none⟩ := by unfold Addr.add; split <;> simp_all
      rw [e] at q; exact q
    exact ⟨hc 0 _ (by omega) rfl, hc 1 _ (by omega) rfl, hc 2 _ (by omega) rfl, hc 3 _ (by omega) rfl⟩

set_option maxHeartbeats 1600000 in
theorem equal_bests {w : World} {base1 base2 : Nat} {v1 v2 : Value} {L : List BestV} (h1 : w.ownsRow base1 24 4 v1 L.length (bestsVs L)) (h2 : w.ownsRow base2 24 4 v2 L.length (bestsVs L)) (hn : L.length ≤ 20000) :
    Calls Try.prog 25 #[v1, v2] w fun e w' => e = .returned (.bool true) ∧ w.grownBy w' none := by
  obtain ⟨a1, c1, rfl, q1⟩ := own_bests h1
  obtain ⟨a2, c2, rfl, q2⟩ := own_bests h2
  have Q1 := Lib.hid q1; have Q2 := Lib.hid q2
  clear h1 h2 q1 q2
  go_enter Try.func25, Try.ntmps25
  go_wp2_with fail
  go_loopw [13] (fun iv wr => ∃ k : Nat, k ≤ L.length ∧ iv = .int .i64 k ∧ Hid (w.grownBy wr none)) (fun iv _ => L.length - (intOf iv).toNat)
  case atStart => exact ⟨0, Nat.zero_le _, rfl, grown_refl _ _⟩
  case round =>
    obtain ⟨k, hk, rfl, hg⟩ := hrel
    by_cases hlt : k < L.length
    · obtain ⟨g1, rfl, x0, x1, x2, x3⟩ := Q1.out k hlt
      obtain ⟨g2, rfl, y0, y1, y2, y3⟩ := Q2.out k hlt
      replace x0 := grown_cell hg.out x0; replace x1 := grown_cell hg.out x1; replace x2 := grown_cell hg.out x2; replace x3 := grown_cell hg.out x3
      replace y0 := grown_cell hg.out y0; replace y1 := grown_cell hg.out y1; replace y2 := grown_cell hg.out y2; replace y3 := grown_cell hg.out y3
      generalize L[k] = h at *
      obtain ⟨z0, z1, z2, z3⟩ := h
      simp only at x0 x1 x2 x3 y0 y1 y2 y3
      go_wp2_with fail
      go_quiet (fail)
      go_wp2_with fail
      go_roundw
      case rel => exact ⟨k + 1, by omega, by go_num, grown_trans hg.out (grown_drewN _ _ _)⟩
      case measure => simp [intOf]; omega
    · go_wp2_with fail
      go_ret
      exact ⟨rfl, hg.out⟩

/-- What Curve returns. -/
def curL (l ss : List Int) : List BestV := ss.map fun s => ⟨s, bestL l s.toNat⟩
def curveOut (l ss : List Int) : List BestV × Int := if streamE l = 0 then (if sizesE ss = 0 then (curL l ss, 0) else ([], sizesE ss)) else ([], streamE l)
theorem cur_snoc {l ss : List Int} {k : Nat} (h : k < ss.length) : curL l (ss.take (k + 1)) = curL l (ss.take k) ++ [⟨nthI ss k, bestL l (nthI ss k).toNat⟩] := by
  unfold curL
  rw [List.take_succ_eq_append_getElem h, List.map_append, nthI_at h]; rfl
theorem cur_len (l ss : List Int) (k : Nat) (h : k ≤ ss.length) : (curL l (ss.take k)).length = k := by simp [curL]; omega
theorem curve_len {l ss : List Int} {L : List BestV} {E : Int} (h : curveOut l ss = (L, E)) : L.length ≤ 20000 := by
  unfold curveOut at h
  split at h
  · split at h
    · rename_i h1
      simp only [Prod.mk.injEq] at h
      have := (sizes_ok h1).1
      rw [← h.1]; simp [curL]; omega
    · simp only [Prod.mk.injEq] at h; rw [← h.1]; simp
  · simp only [Prod.mk.injEq] at h; rw [← h.1]; simp
end Go.Proofs.Ytfeefijaahjheaa
