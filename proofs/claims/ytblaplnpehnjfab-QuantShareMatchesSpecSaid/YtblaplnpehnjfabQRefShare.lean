/- The reference's Share. -/
import Derived.Test.YtblaplnpehnjfabQLawShare
import Derived.Test.YtblaplnpehnjfabQPick
namespace Go.Proofs.Ytblaplnpehnjfab
open Go.RowKit

theorem div0_any (lo y : Nat) (hy0 : 0 < y) (hl : Hid (lo < 18446744073709551616)) (w : World) :
    Calls Try.prog 35 #[.int .u64 0, .int .u64 lo, .int .u64 y] w fun e w' => e = .returned (.tuple #[.int .u64 ((lo / y : Nat) : Int), .int .u64 ((lo % y : Nat) : Int)]) ∧ ∃ m, w' = w.drewN m := by
  have hb : ((y : Int) == 0) = false := by simp; omega
  have eq : IntKind.u64.wrap ((lo : Int) / (y : Int)) = ((lo / y : Nat) : Int) := by
    rw [← Int.natCast_ediv]; exact u64_wrap _ _ (Nat.mod_eq_of_lt (Nat.lt_of_le_of_lt (Nat.div_le_self _ _) hl.out))
  go_enter Try.func35, Try.ntmps35
  go_wp2
  go_quiet (fail)
  go_wp2
  go_ret2
  exact ⟨ret_uu (by simp) (by simp), _, rfl⟩

theorem rrest_nat (T X S : Nat) (hp : Hid (T * X < 9223372036854775808)) (hS0 : 0 < S) (hS : (S : Int) ≤ 1000000000) (hT : (T : Int) ≤ 1000000000000) (hX : (X : Int) ≤ 1000000) (w : World) {q : Int} (hq : Hid (((T * X % S : Nat) : Int) = q)) :
    Calls Try.prog 46 #[.int .i64 (T : Int), .int .i64 (X : Int), .int .i64 (S : Int)] w fun e w' => e = .returned (.int .u64 q) ∧ ∃ m, w' = w.drewN m := by
  have HH : Hid (T * X / 18446744073709551616 = 0) := Nat.div_eq_of_lt (by have := hp.out; omega)
  have HL : Hid (T * X % 18446744073709551616 = T * X) := Nat.mod_eq_of_lt (by have := hp.out; omega)
  have HT : Hid (T < 18446744073709551616) := by show _ < _; omega
  have HX : Hid (X < 18446744073709551616) := by show _ < _; omega
  have HB : Hid (T * X < 18446744073709551616) := by show _ < _; have := hp.out; omega
  have hs0 : ((S : Int) == 0) = false := by simp; omega
  go_enter Try.func46, Try.ntmps46
  go_wp2_with fail
  refine (mul_any T X HT.out HX.out _ HH HL).mono ?_
  rintro e w1 ⟨rfl, rfl⟩
  go_wp2_with fail
  refine (div0_any (T * X) S hS0 HB _).mono ?_
  rintro e w1 ⟨rfl, m, rfl⟩
  go_wp2_with fail
  go_ret
  exact ⟨ret_int hq.out, m, rfl⟩

theorem rrest_is {t x s q : Int} (ht0 : 0 ≤ t) (ht1 : t ≤ 1000000000000) (hx0 : 0 ≤ x) (hx1 : x ≤ 1000000) (hs0 : 0 < s) (hs1 : s ≤ 1000000000) (hq : Hid (restOf t s x = q)) (w : World) :
    Calls Try.prog 46 #[.int .i64 t, .int .i64 x, .int .i64 s] w fun e w' => e = .returned (.int .u64 q) ∧ ∃ m, w' = w.drewN m := by
  obtain ⟨T, rfl⟩ : ∃ n : Nat, (n : Int) = t := ⟨t.toNat, by omega⟩
  obtain ⟨X, rfl⟩ : ∃ n : Nat, (n : Int) = x := ⟨x.toNat, by omega⟩
  obtain ⟨S, rfl⟩ : ∃ n : Nat, (n : Int) = s := ⟨s.toNat, by omega⟩
  refine rrest_nat T X S ?_ (by omega) hs1 ht1 hx1 w ?_
  · show _ < _
    have h := Int.mul_le_mul ht1 hx1 hx0 (by omega)
    have e : ((T * X : Nat) : Int) = (T : Int) * (X : Int) := by push_cast; rfl
    omega
  · show _ = _
    rw [← hq.out]
    unfold restOf
    push_cast
    rfl

def bRow (n : Nat) (G : Nat → Bool) : Array Value := ((List.range n).map fun k => Value.bool (G k)).toArray
theorem bRow_get (n : Nat) (G : Nat → Bool) (k : Nat) (h : k < n) : (bRow n G)[k]? = some (.bool (G k)) := by simp [bRow, h]
theorem bRow_set (n : Nat) (G : Nat → Bool) (k : Nat) (v : Bool) : (bRow n G).setIfInBounds k (.bool v) = bRow n (updB G k v) := by
  unfold bRow
  rw [List.setIfInBounds_toArray]
  congr 1
  apply List.ext_getElem
  · simp
  · intro i h1 h2
    rw [List.getElem_set]
    simp only [List.getElem_map, List.getElem_range, updB]
    by_cases e : k = i
    · rw [if_pos e, if_pos e.symm]
    · rw [if_neg e, if_neg (fun q => e q.symm)]
theorem bRow_zero (n : Nat) (f : Nat → Nat) : madeCells #[Value.bool false] n = bRow n (givenB f 0) := by
  apply Array.ext
  · simp [madeCells, bRow]
  · intro i h1 h2
    simp [madeCells, bRow, Nat.mod_one, given_zero]
def MarksAt (w : World) (g n : Nat) (G : Nat → Bool) : Prop := w.heap[g]? = some (.cells (bRow n G) 4 (0, 0))
section
variable {w : World} {g n : Nat} {G : Nat → Bool}
theorem MarksAt.cell (h : MarksAt w g n G) {k : Nat} (hk : k < n) : w.cell? ⟨g, k, none⟩ = some (.bool (G k)) := by
  have h' : w.heap[g]? = _ := h
  simp [World.cell?, h', bRow_get n G k hk]
theorem MarksAt.free (h : MarksAt w g n G) (k : Nat) : w.frozen? ⟨g, k, none⟩ = false := by
  have h' : w.heap[g]? = _ := h
  simp [World.frozen?, h']
theorem MarksAt.set (h : MarksAt w g n G) (k : Nat) (v : Bool) : MarksAt (w.setCell ⟨g, k, none⟩ (.bool v)) g n (updB G k v) := by
  have h' : w.heap[g]? = _ := h
  show (w.setCell ⟨g, k, none⟩ (.bool v)).heap[g]? = _
  simp [World.setCell, Array.getElem?_modify, h', bRow_set]
theorem MarksAt.far (h : MarksAt w g n G) {g' : Nat} (ne : g ≠ g') (k : Nat) (v : Value) : MarksAt (w.setCell ⟨g', k, none⟩ v) g n G := by
  show (w.setCell ⟨g', k, none⟩ v).heap[g]? = _
  rw [Below.heap_setCell _ _ _ _ ne]; exact h
theorem MarksAt.same (h : MarksAt w g n G) {w' : World} (e : w'.heap = w.heap) : MarksAt w' g n G := by
  show w'.heap[g]? = _
  rw [e]; exact h
theorem MarksAt.grown (h : MarksAt w g n G) {w' : World} (hg : w.grownBy w' none) : MarksAt w' g n G := by
  have h' : w.heap[g]? = _ := h
  show w'.heap[g]? = _
  rw [hg.block g (lt_of_block h') (by simp)]; exact h
end
theorem info_bool : (Try.prog.info? 4).map (fun i => (i.zero, i.size, i.bytes)) = some (some (.bool false), 1, 1) := by kernel_rfl

/-- What is known of weights and an order. -/
structure Known (t s : Int) (ws : List Int) (f : Nat → Nat) : Prop where
  t0 : 0 ≤ t
  t1 : t ≤ 1000000000000
  n0 : 0 < ws.length
  n1 : ws.length ≤ 1000
  s0 : 0 < s
  s1 : s ≤ 1000000000
  sum : ws.sum = s
  good : ∀ i, i < ws.length → 0 ≤ nth ws i ∧ nth ws i ≤ s ∧ nth ws i ≤ 1000000
  ord : Ord (keyOf t s ws) ws.length f

set_option maxRecDepth 100000 in
set_option maxHeartbeats 12800000 in
theorem parts_walk (t s : Int) (b off cap : Nat) (ws : List Int) (f : Nat → Nat) (hK : Hid (Known t s ws f)) (w : World) (hw : Hid (∀ i, i < ws.length → w.cell? ⟨b, off + i, none⟩ = some (.int .i64 (nth ws i)))) :
    Calls Try.prog 30 #[.int .i64 t, .slice (some ⟨b, off, none⟩) ws.length cap] w fun e w' => (∃ g, e = .returned (.slice (some ⟨g, 0, none⟩) ws.length ws.length) ∧ RowAt w' g ws.length (nth (bumped (partsL t s ws) f (leftAt t s ws ws.length).toNat))) ∧ w.grownBy w' none := by
  have n0 := hK.out.n0
  have n1 := hK.out.n1
  have t0 := hK.out.t0
  have t1 := hK.out.t1
  have s0 := hK.out.s0
  have s1 := hK.out.s1
  go_enter Try.func30, Try.ntmps30
  go_wp2_with fail
  go_loopw [5, 18] (fun sv iv wr => ∃ j : Nat, j ≤ ws.length ∧ iv = .int .i64 j ∧ sv = .int .i64 (ws.take j).sum ∧ w = wr) (fun _ iv _ => ws.length - (intOf iv).toNat)
  case atStart => exact ⟨0, Nat.zero_le _, rfl, by simp, rfl⟩
  case round =>
    obtain ⟨j, hj, rfl, rfl, rfl⟩ := hrel
    by_cases hlt : j < ws.length
    · have hc := hw.out j hlt
      have hx := hK.out.good j hlt
      have hsb := sum_take_bd ws j 1000000 (by omega) (fun i hi => by have := hK.out.good i hi; omega)
      have hss := sum_take_succ ws j hlt
      obtain ⟨S, hS⟩ : ∃ S, (ws.take j).sum = S := ⟨_, rfl⟩
      obtain ⟨x, hx'⟩ : ∃ x, nth ws j = x := ⟨_, rfl⟩
      rw [hx'] at hc hss hx
      rw [hS] at hsb hss
      rw [hS]
      have hjn : (j : Int) ≤ 1000 := by omega
      have HSS := Lib.hid hss; clear hss hS hx'
      go_wp2_with fail
      exact ⟨⟨j + 1, by omega, by go_num, by rw [HSS.out], by first | rfl | trivial⟩, by simp [intOf]; omega⟩
    · have hje : j = ws.length := by omega
      subst hje
      rw [List.take_length, hK.out.sum]
      have hmk := run_make_row' (P := Try.prog) 50 3 (.int .i64 0) 8 Try.underlying50 info_int rfl .i64 .i64 ws.length (by omega) (by omega)
      have hmb := run_make_row' (P := Try.prog) 93 4 (.bool false) 1 Try.underlying93 info_bool rfl .i64 .i64 ws.length (by omega) (by omega)
      go_wp2_with fail
      have hP0 : RowAt ((w.alloc (.cells (madeCells #[.int .i64 0] ws.length) 3)).alloc (.cells (madeCells #[.bool false] ws.length) 4)) w.heap.size ws.length (uptoI (partsL t s ws) 0) := by
        have q : RowAt (w.alloc (.cells (madeCells #[.int .i64 0] ws.length) 3)) w.heap.size ws.length (fun _ => 0) := by
          show (w.alloc _).heap[w.heap.size]? = _
          rw [iRow_zero]; exact heap_alloc_new w _
        exact (q.grown (World.grownBy_alloc _ _ _)).congr (fun k _ => by simp [uptoI])
      have hM0 : MarksAt ((w.alloc (.cells (madeCells #[.int .i64 0] ws.length) 3)).alloc (.cells (madeCells #[.bool false] ws.length) 4)) (w.heap.size + 1) ws.length (givenB f 0) := by
        have e : (w.alloc (.cells (madeCells #[.int .i64 0] ws.length) 3)).heap.size = w.heap.size + 1 := by simp
        show (World.alloc _ _).heap[w.heap.size + 1]? = _
        rw [← e, bRow_zero _ f]; exact heap_alloc_new _ _
      have hg0 : w.grownBy ((w.alloc (.cells (madeCells #[.int .i64 0] ws.length) 3)).alloc (.cells (madeCells #[.bool false] ws.length) 4)) none := grown_trans (World.grownBy_alloc _ _ _) (World.grownBy_alloc _ _ _)
      have hlb : ∀ j, 0 ≤ leftAt t s ws j ∧ leftAt t s ws j ≤ t := fun j => left_bd t0 s0 (fun i hi => (hK.out.good i hi).1) hK.out.sum j
      have HP0 := Lib.hid hP0; have HM0 := Lib.hid hM0; have HLB := Lib.hid hlb; clear hP0 hM0 hlb hmk hmb
      go_loopw [10, 35] (fun lv iv wt => ∃ j : Nat, j ≤ ws.length ∧ iv = .int .i64 j ∧ lv = .int .i64 (leftAt t s ws j) ∧ RowAt wt w.heap.size ws.length (uptoI (partsL t s ws) j) ∧ MarksAt wt (w.heap.size + 1) ws.length (givenB f 0) ∧ w.grownBy wt none) (fun _ iv _ => ws.length - (intOf iv).toNat)
      case atStart => exact ⟨0, Nat.zero_le _, rfl, by rw [left_zero], HP0.out, HM0.out, hg0⟩
      case round =>
        obtain ⟨j, hj, rfl, rfl, hP, hM, hg⟩ := hrel
        by_cases hlt2 : j < ws.length
        · have hc := hg.cell (hw.out j hlt2) (by simp)
          have hx := hK.out.good j hlt2
          have hl0 := HLB.out j
          have hl1 := HLB.out (j + 1)
          have hls := left_succ (t := t) (s := s) hlt2
          have hpb := part_bd t0 s0 hx.1 hx.2.1
          have hsc := scale_part t0 t1 s0 hx.1 hx.2.1
          have hpn := nth_parts (t := t) (s := s) hlt2
          obtain ⟨x, hx'⟩ : ∃ x, nth ws j = x := ⟨_, rfl⟩
          obtain ⟨p, hp⟩ : ∃ p, partOf t s x = p := ⟨_, rfl⟩
          rw [hx'] at hc hx hls hpb hsc hpn
          rw [hp] at hls hpb hsc hpn
          obtain ⟨l0, hl00⟩ : ∃ l0, leftAt t s ws j = l0 := ⟨_, rfl⟩
          rw [hl00] at hl0 hls
          rw [hl00]
          have HLS := Lib.hid hls; have HL1 := Lib.hid hl1; have HSC := Lib.hid hsc; have HPN := Lib.hid hpn
          clear hls hl1 hsc hpn hx' hp hl00
          go_wp2_with fail
          refine (rscale_is HSC.out (by omega) (by omega) (by omega) (by omega) (by omega) (by omega) _).mono ?_
          rintro e w2 ⟨rfl, hg2⟩
          have hP2 := hP.grown hg2
          have hM2 := hM.grown hg2
          have hgw := grown_trans hg hg2
          have cP := hP2.cell hlt2
          have fP := hP2.free j
          have hP3 := hP2.set j (nth (partsL t s ws) j)
          rw [uptoI_upd, HPN.out] at hP3
          have cP3 := hP3.cell hlt2
          have ep : uptoI (partsL t s ws) (j + 1) j = p := by unfold uptoI; rw [if_pos (by omega), HPN.out]
          rw [ep] at cP3
          have HP3 := Lib.hid hP3; clear hP3 ep hP hM hP2 hc
          go_wp2_with fail
          exact ⟨⟨j + 1, by omega, by go_num, by rw [HLS.out], HP3.out, hM2.far (by omega) _ _, grow_at hgw (by omega) _ _⟩, by simp [intOf]; omega⟩
        · have hje : j = ws.length := by omega
          subst hje
          have hpl : (partsL t s ws).length = ws.length := by simp [partsL]
          have hPn : RowAt wr w.heap.size ws.length (nth (bumped (partsL t s ws) f 0)) := hP.congr (fun k hk => by unfold uptoI; rw [if_pos hk]; rfl)
          have hl0 := (HLB.out ws.length).1
          have hlL := left_lt (t := t) s0 hK.out.sum n0
          obtain ⟨L, hL⟩ : ∃ L : Nat, leftAt t s ws ws.length = (L : Int) := ⟨(leftAt t s ws ws.length).toNat, by omega⟩
          rw [hL] at hlL
          rw [hL]
          have hLn : L ≤ ws.length := by omega
          have HPN := Lib.hid hPn; have HL := Lib.hid hL; have HM := Lib.hid hM; have HPL := Lib.hid hpl
          clear hP hM hPn hL hlL hl0 hpl
          go_wp2_with fail
          go_loopw [10] (fun lv wt => ∃ j : Nat, j ≤ L ∧ lv = .int .i64 ((L : Int) - (j : Int)) ∧ RowAt wt w.heap.size ws.length (nth (bumped (partsL t s ws) f j)) ∧ MarksAt wt (w.heap.size + 1) ws.length (givenB f j) ∧ w.grownBy wt none) (fun lv _ => (intOf lv).toNat)
          case atStart => exact ⟨0, Nat.zero_le _, by go_num, HPN.out, HM.out, hg⟩
          case round =>
            obtain ⟨j, hj, rfl, hQ, hG, hgw⟩ := hrel
            by_cases hlt3 : j < L
            · have hli : 0 < (L : Int) - (j : Int) := by omega
              go_wp2_with fail
              go_loopw [13, 63] (fun bv iv wt => ∃ (k : Nat) (B : Int), k ≤ ws.length ∧ iv = .int .i64 k ∧ bv = .int .i64 B ∧ Hid (BestIs (keyOf t s ws) (givenB f j) k B) ∧ RowAt wt w.heap.size ws.length (nth (bumped (partsL t s ws) f j)) ∧ MarksAt wt (w.heap.size + 1) ws.length (givenB f j) ∧ w.grownBy wt none) (fun _ iv _ => ws.length - (intOf iv).toNat)
              case atStart => exact ⟨0, -1, Nat.zero_le _, rfl, rfl, best_start, hQ, hG, hgw⟩
              case round =>
                obtain ⟨k, B, hk, rfl, rfl, hB, hQ1, hG1, hg1⟩ := hrel
                clear hQ hG hgw
                by_cases hlk : k < ws.length
                · have hck := hg1.cell (hw.out k hlk) (by simp)
                  have hgk := hG1.cell hlk
                  have hx := hK.out.good k hlk
                  have hkk : keyOf t s ws k = restOf t s (nth ws k) := rfl
                  obtain ⟨x, hx'⟩ : ∃ x, nth ws k = x := ⟨_, rfl⟩
                  obtain ⟨r, hr⟩ : ∃ r, restOf t s x = r := ⟨_, rfl⟩
                  rw [hx'] at hck hx hkk
                  rw [hr] at hkk
                  have hrb := rest_bd (t := t) s0 x
                  rw [hr] at hrb
                  have HR := Lib.hid hr; have HKK := Lib.hid hkk; clear hr hkk hx'
                  have hckq : ∀ q, (wr.drewN q).cell? ⟨b, off + k, none⟩ = some (.int .i64 x) := fun q => by simpa using hck
                  have k0 : (0 : Int) ≤ (k : Int) := by omega
                  have k1 : (k : Int) < (ws.length : Int) := by omega
                  rcases hgb : givenB f j k with _ | _
                  · rw [hgb] at hgk
                    have hgkq : ∀ q, (wr.drewN q).cell? ⟨w.heap.size + 1, k, none⟩ = some (.bool false) := fun q => by simpa using hgk
                    have HGB := Lib.hid hgb; clear hgb
                    rcases best_lt hB.out with hb1 | ⟨m, hb1, hmk⟩
                    · as_aux_lemma =>
                      subst hb1
                      go_wp2_with fail
                      go_quiet (fail)
                      go_wp2_with fail
                      exact ⟨⟨k + 1, k, by omega, by go_num, rfl, best_first hB.out (by omega) HGB.out, hQ1.same rfl, hG1.same rfl, grown_trans hg1 (grown_drewN _ _ _)⟩, by simp [intOf]; omega⟩
                    · subst hb1
                      have hml : m < ws.length := by omega
                      have hcm := hg1.cell (hw.out m hml) (by simp)
                      have hxm := hK.out.good m hml
                      have hkm : keyOf t s ws m = restOf t s (nth ws m) := rfl
                      obtain ⟨y, hy'⟩ : ∃ y, nth ws m = y := ⟨_, rfl⟩
                      obtain ⟨u, hu⟩ : ∃ u, restOf t s y = u := ⟨_, rfl⟩
                      rw [hy'] at hcm hxm hkm
                      rw [hu] at hkm
                      have hub := rest_bd (t := t) s0 y
                      rw [hu] at hub
                      have HU := Lib.hid hu; have HKM := Lib.hid hkm; clear hu hkm hy'
                      have hcmq : ∀ q, (wr.drewN q).cell? ⟨b, off + m, none⟩ = some (.int .i64 y) := fun q => by simpa using hcm
                      have m0 : (0 : Int) ≤ (m : Int) := by omega
                      have m1 : (m : Int) < (ws.length : Int) := by omega
                      have mz : decide ((m : Int) < 0) = false := by simp
                      by_cases hur : u < r
                      · as_aux_lemma =>
                        have hur1 : decide (u < r) = true := by simpa using hur
                        go_wp2_with fail
                        go_quiet (first | (go_at_call_of 46 (Value.int IntKind.i64 x); exact Calls.quiet_of (rrest_is t0 t1 hx.1 hx.2.2 s0 s1 HR _)) | (go_at_call_of 46 (Value.int IntKind.i64 y); exact Calls.quiet_of (rrest_is t0 t1 hxm.1 hxm.2.2 s0 s1 HU _)))
                        go_wp2_with fail
                        exact ⟨⟨k + 1, k, by omega, by go_num, rfl, best_more hB.out HGB.out (by rw [HKM.out, HKK.out]; exact hur), hQ1.same rfl, hG1.same rfl, grown_trans hg1 (grown_drewN _ _ _)⟩, by simp [intOf]; omega⟩
                      · as_aux_lemma =>
                        have hur1 : decide (u < r) = false := by simpa using hur
                        go_wp2_with fail
                        go_quiet (first | (go_at_call_of 46 (Value.int IntKind.i64 x); exact Calls.quiet_of (rrest_is t0 t1 hx.1 hx.2.2 s0 s1 HR _)) | (go_at_call_of 46 (Value.int IntKind.i64 y); exact Calls.quiet_of (rrest_is t0 t1 hxm.1 hxm.2.2 s0 s1 HU _)))
                        go_wp2_with fail
                        exact ⟨⟨k + 1, m, by omega, by go_num, rfl, best_stay hB.out (by rw [HKM.out, HKK.out]; omega), hQ1.same rfl, hG1.same rfl, grown_trans hg1 (grown_drewN _ _ _)⟩, by simp [intOf]; omega⟩
                  · as_aux_lemma =>
                    rw [hgb] at hgk
                    have hgkq : ∀ q, (wr.drewN q).cell? ⟨w.heap.size + 1, k, none⟩ = some (.bool true) := fun q => by simpa using hgk
                    have HGB := Lib.hid hgb; clear hgb
                    go_wp2_with fail
                    go_quiet (fail)
                    go_wp2_with fail
                    exact ⟨⟨k + 1, B, by omega, by go_num, rfl, best_given hB.out HGB.out, hQ1.same rfl, hG1.same rfl, grown_trans hg1 (grown_drewN _ _ _)⟩, by simp [intOf]; omega⟩
                · have hke : k = ws.length := by omega
                  subst hke
                  have hjn : j < ws.length := by omega
                  have hBf := best_end hK.out.ord hjn hB.out
                  subst hBf
                  have hfn := hK.out.ord.lt hjn
                  obtain ⟨y, hy⟩ : ∃ y, f j = y := ⟨_, rfl⟩
                  have hG2 := hG1.set (f j) true
                  rw [given_succ] at hG2
                  rw [hy] at hG2 hfn
                  rw [hy]
                  have cg := hG1.cell hfn
                  have fg := hG1.free y
                  have cy := hQ1.cell hfn
                  have fy := hQ1.free y
                  have hb := bumped_nth (partsL t s ws) f hK.out.ord.inj (fun k hk => by rw [HPL.out] at hk ⊢; exact hK.out.ord.lt hk) j (by rw [HPL.out]; omega) y
                  have hy0 := hK.out.good y hfn
                  have hpb := part_bd t0 s0 hy0.1 hy0.2.1
                  rw [nth_parts hfn] at hb
                  have hst := (hQ1.far (g' := w.heap.size + 1) (by omega) y (.bool true)).set y (nth (bumped (partsL t s ws) f j) y + 1)
                  have cy2 := (hQ1.far (g' := w.heap.size + 1) (by omega) y (.bool true)).cell hfn
                  rw [nth_updI (by rw [bumped_len, HPL.out]; exact hfn), show (bumped (partsL t s ws) f j).set y (nth (bumped (partsL t s ws) f j) y + 1) = bumped (partsL t s ws) f (j + 1) by rw [bumped, hy]] at hst
                  obtain ⟨v, hv⟩ : ∃ v, nth (bumped (partsL t s ws) f j) y = v := ⟨_, rfl⟩
                  rw [hv] at hb cy cy2 hst
                  have hv0 : 0 ≤ v := by omega
                  have hv1 : v ≤ 1000000000001 := by omega
                  have HST := Lib.hid hst; have HG2 := Lib.hid hG2; clear hst hG2 hb hv hy hpb hy0 hB
                  go_wp2_with fail
                  exact ⟨⟨j + 1, by omega, by go_num, HST.out, HG2.out.far (by omega) _ _, grow_at (grow_at hg1 (by omega) _ _) (by omega) _ _⟩, by simp [intOf]; omega⟩
            · have hjL : j = L := by omega
              subst hjL
              have hli : ¬ 0 < (j : Int) - (j : Int) := by omega
              go_wp2_with fail
              go_ret
              exact ⟨⟨w.heap.size, rfl, by rw [HL.out]; exact hQ⟩, hgw⟩
end Go.Proofs.Ytblaplnpehnjfab
