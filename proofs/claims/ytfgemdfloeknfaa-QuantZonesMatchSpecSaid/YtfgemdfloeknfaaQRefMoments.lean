/- The reference's Moments. -/
import Derived.Test.YtfgemdfloeknfaaQRefZone
import Derived.Test.YtfgemdfloeknfaaQThere
import Derived.Test.YtfgemdfloeknfaaQSort
namespace Go.Proofs.Ytfgemdfloeknfaa
open Go.RowKit

/-- One offset more: is it one in force at the moment that it makes, and not known yet? -/
def foundStep (first : Int) (cs : List (Int × Int)) (shown : Int) (l : List Int) (o : Int) : List Int :=
  if offE first cs (shown - 60 * o) = (o, 0) ∧ shown - 60 * o ∉ l then l ++ [shown - 60 * o] else l
def found (first : Int) (cs : List (Int × Int)) (shown : Int) (os : List Int) : List Int := os.foldl (foundStep first cs shown) []
def offs (first : Int) (cs : List (Int × Int)) : List Int := first :: cs.map (·.2)

theorem found_succ (first : Int) (cs : List (Int × Int)) (shown : Int) (os : List Int) (j : Nat) (h : j < os.length) :
    found first cs shown (os.take (j + 1)) = foundStep first cs shown (found first cs shown (os.take j)) os[j] := by
  unfold found
  rw [List.take_succ_eq_append_getElem h, List.foldl_append]
  rfl
theorem found_len (first : Int) (cs : List (Int × Int)) (shown : Int) (os : List Int) (l : List Int) : (os.foldl (foundStep first cs shown) l).length ≤ l.length + os.length := by
  induction os generalizing l with
  | nil => simp
  | cons o r ih =>
    have := ih (foundStep first cs shown l o)
    have h2 : (foundStep first cs shown l o).length ≤ l.length + 1 := by unfold foundStep; split <;> simp
    simp only [List.foldl_cons, List.length_cons]
    omega
theorem found_nodup (first : Int) (cs : List (Int × Int)) (shown : Int) (os : List Int) (l : List Int) (hl : l.Nodup) : (os.foldl (foundStep first cs shown) l).Nodup := by
  induction os generalizing l with
  | nil => exact hl
  | cons o r ih =>
    rw [List.foldl_cons]
    refine ih _ ?_
    unfold foundStep
    split
    · rename_i h
      rw [List.nodup_append]
      refine ⟨hl, by simp, fun a ha b hb => ?_⟩
      rw [List.mem_singleton] at hb
      subst hb
      exact fun e => h.2 (e ▸ ha)
    · exact hl
theorem found_mem (first : Int) (cs : List (Int × Int)) (shown : Int) (os : List Int) (l : List Int) (x : Int) :
    x ∈ os.foldl (foundStep first cs shown) l ↔ x ∈ l ∨ ∃ o ∈ os, offE first cs (shown - 60 * o) = (o, 0) ∧ x = shown - 60 * o := by
  induction os generalizing l with
  | nil => simp
  | cons o r ih =>
    rw [List.foldl_cons, ih]
    have hs : x ∈ foundStep first cs shown l o ↔ x ∈ l ∨ (offE first cs (shown - 60 * o) = (o, 0) ∧ x = shown - 60 * o) := by
      unfold foundStep
      split
      · rename_i h
        rw [List.mem_append, List.mem_singleton]
        simp [h.1]
      · rename_i h
        constructor
        · exact Or.inl
        · rintro (h1 | ⟨h1, h2⟩)
          · exact h1
          · by_cases hm : shown - 60 * o ∈ l
            · rw [h2]; exact hm
            · exact absurd ⟨h1, hm⟩ h
    rw [hs]
    constructor
    · rintro ((h | ⟨h1, h2⟩) | ⟨q, hq, h1, h2⟩)
      · exact .inl h
      · exact .inr ⟨o, by simp, h1, h2⟩
      · exact .inr ⟨q, by simp [hq], h1, h2⟩
    · rintro (h | ⟨q, hq, h1, h2⟩)
      · exact .inl (.inl h)
      · rcases List.mem_cons.1 hq with rfl | hq
        · exact .inl (.inr ⟨h1, h2⟩)
        · exact .inr ⟨q, hq, h1, h2⟩

theorem offP_mem : ∀ (cs : List (Int × Int)) (first m : Int), offP first cs m ∈ offs first cs
  | [], first, m => by simp [offP, offs]
  | (f, o) :: r, first, m => by
    unfold offP
    split
    · simp [offs]
    · have := offP_mem r o m
      unfold offs at this ⊢
      simp only [List.map_cons]
      exact List.mem_cons_of_mem _ this

theorem found_is (first : Int) (cs : List (Int × Int)) (shown x : Int) (hz : zoneE first cs = 0) : x ∈ found first cs shown (offs first cs) ↔ x ∈ momP shown 0 first cs := by
  obtain ⟨_, _, _, hc⟩ := zone_ok hz
  rw [momP_mem _ cs 0 first (-1) hc (by omega) (by omega)]
  unfold found
  rw [found_mem]
  have he : ∀ m, offE first cs m = if m < 0 ∨ 86399999999 < m then (0, 9) else (offP first cs m, 0) := fun m => by
    unfold offE; rw [if_neg (by simp [hz])]
  constructor
  · rintro (h | ⟨o, _, h1, h2⟩)
    · simp at h
    · rw [he] at h1
      split at h1
      · simp at h1
      · simp only [Prod.mk.injEq, and_true] at h1
        rw [← h2] at h1
        refine ⟨by omega, by omega, ?_⟩
        rw [h1]; exact h2
  · rintro ⟨h1, h2, h3⟩
    refine .inr ⟨offP first cs x, offP_mem cs first x, ?_, h3⟩
    rw [← h3, he, if_neg (by omega)]

/-- Two rising lists that have the same members are the same. -/
theorem rising_ext : ∀ (xs ys : List Int), xs.Pairwise (· < ·) → ys.Pairwise (· < ·) → (∀ x, x ∈ xs ↔ x ∈ ys) → xs = ys
  | [], [], _, _, _ => rfl
  | [], y :: ys, _, _, h => by have := (h y).2 (by simp); simp at this
  | x :: xs, [], _, _, h => by have := (h x).1 (by simp); simp at this
  | x :: xs, y :: ys, hx, hy, h => by
    rw [List.pairwise_cons] at hx hy
    have hxy : x = y := by
      rcases List.mem_cons.1 ((h x).1 (by simp)) with e | h1
      · exact e
      · rcases List.mem_cons.1 ((h y).2 (by simp)) with e | h2
        · exact e.symm
        · have := hy.1 x h1; have := hx.1 y h2; omega
    subst hxy
    refine congrArg _ (rising_ext xs ys hx.2 hy.2 fun z => ?_)
    constructor
    · intro hz
      have := hx.1 z hz
      rcases List.mem_cons.1 ((h z).1 (List.mem_cons_of_mem _ hz)) with e | h1
      · omega
      · exact h1
    · intro hz
      have := hy.1 z hz
      rcases List.mem_cons.1 ((h z).2 (List.mem_cons_of_mem _ hz)) with e | h1
      · omega
      · exact h1

/-- Sorted, without twins, and with the same members: the list of Moments. -/
theorem sorted_is (xs ys : List Int) (hs : ys.Pairwise (· ≤ ·)) (hd : ys.Nodup) (hx : xs.Pairwise (· < ·)) (h : ∀ x, x ∈ ys ↔ x ∈ xs) : ys = xs := by
  refine rising_ext ys xs ?_ hx h
  have := List.pairwise_and_iff.2 ⟨hs, hd⟩
  exact this.imp fun {a b} h => by have := h.1; have := h.2; omega

theorem mem_step (m x : Int) (l : List Int) : decide (m ∈ l ++ [x]) = (decide (m ∈ l) || decide (x = m)) := by
  rw [← Bool.decide_or]
  exact decide_eq_decide.2 (by rw [List.mem_append, List.mem_singleton]; exact or_congr Iff.rfl eq_comm)
theorem own_shape {w : World} {base : Nat} {v : Value} {xs : List Int} (h : w.ownsRow base 3 1 v xs.length (xs.map (Value.int .i64))) :
    ∃ lo cap, v = .slice lo xs.length cap ∧ ∀ j (hj : j < xs.length), ∃ g, lo = some ⟨g, 0, none⟩ ∧ w.cell? ⟨g, j, none⟩ = some (.int .i64 xs[j]) := by
  by_cases hx : 0 < xs.length
  · obtain ⟨g, cap, hv, hc⟩ := list_cells h hx
    exact ⟨_, cap, hv, fun j hj => ⟨g, rfl, hc j hj⟩⟩
  · rcases h.2 with ⟨hv, h0⟩ | ⟨g, cap, cur, hv, _⟩
    · exact ⟨none, 0, by rw [hv, h0], fun j hj => by omega⟩
    · exact ⟨_, cap, hv, fun j hj => by omega⟩
theorem own_grown {w w' : World} {b : Nat} {e : TypeId} {size n : Nat} {v : Value} {xs : List Value} (h : w.ownsRow b e size v n xs) (g : w.grownBy w' none) : w'.ownsRow b e size v n xs := by
  refine ⟨h.1, h.2.imp id ?_⟩
  rintro ⟨k, cap, cur, h1, h2, h3, h4⟩
  refine ⟨k, cap, cur, h1, h2, ?_, h4⟩
  rw [g.block k (Array.getElem?_eq_some_iff.1 h3).1 (by simp)]
  exact h3

theorem own_set {w : World} {base g n cap : Nat} {ys : List Int} (h : w.ownsRow base 3 1 (.slice (some ⟨g, 0, none⟩) n cap) n (ys.map (Value.int .i64))) {k : Nat} (_ : k < n) (x : Int) :
    (w.setCell ⟨g, k, none⟩ (.int .i64 x)).ownsRow base 3 1 (.slice (some ⟨g, 0, none⟩) n cap) n ((ys.set k x).map (Value.int .i64)) := by
  refine ⟨by simpa using h.1, .inr ?_⟩
  rcases h.2 with ⟨h0, _⟩ | ⟨g', cap', cur, hv, hb, hg, hn, hm, hs, ht⟩
  · cases h0
  · cases hv
    refine ⟨g, cap, cur.setIfInBounds k (.int .i64 x), rfl, hb, by simp [World.setCell, Array.getElem?_modify, hg], hn, hm, by simpa using hs, ?_⟩
    rw [Array.toList_setIfInBounds, List.take_set, ht, List.map_set]
theorem own_free {w : World} {base g n cap : Nat} {xs : List Value} (h : w.ownsRow base 3 1 (.slice (some ⟨g, 0, none⟩) n cap) n xs) (k : Nat) : w.frozen? ⟨g, k, none⟩ = false := by
  rcases h.2 with ⟨h0, _⟩ | ⟨g', cap', cur, hv, hb, hg, _⟩
  · cases h0
  · cases hv
    simp [World.frozen?, hg]
theorem own_at {w : World} {base g n cap : Nat} {ys : List Int} (h : w.ownsRow base 3 1 (.slice (some ⟨g, 0, none⟩) n cap) n (ys.map (Value.int .i64))) (hl : ys.length = n) {k : Nat} (hk : k < n) : w.cell? ⟨g, k, none⟩ = some (.int .i64 (at0 ys k)) := by
  subst hl
  obtain ⟨g', cap', hv, hc⟩ := list_cells h (by omega)
  cases hv
  rw [hc k hk]
  simp [at0, List.getElem?_eq_getElem hk]
theorem own_grow {w0 w : World} {g : Nat} (h : w0.grownBy w none) (hb : w0.heap.size ≤ g) (k : Nat) (v : Value) : w0.grownBy (w.setCell ⟨g, k, none⟩ v) none :=
  ⟨h.os, h.tape, h.output, by have := h.size; simpa [World.setCell] using this, fun i hi _ => by rw [Below.heap_setCell _ _ _ _ (by show i ≠ g; omega)]; exact h.block i hi (by simp)⟩

set_option maxRecDepth 100000 in
set_option maxHeartbeats 1600000 in
theorem rmoments_walk (first d s : Int) (ao : Option Addr) (cap : Nat) (cs : List (Int × Int)) (hcl : (cs.length : Int) ≤ 9223372036854775807) (w : World) (hz : ZoneAt w ao cs) (hok : Hid (zoneE first cs = 0)) (hd0 : 0 ≤ d) (hd1 : d ≤ 999999) (hs0 : 0 ≤ s) (hs1 : s ≤ 86399) :
    Calls Try.prog 31 #[.agg #[.int .i64 first, .slice ao cs.length cap], .int .i64 d, .int .i64 s] w fun e w' => (∃ v, e = .returned (.tuple #[v, .int .i64 0]) ∧ w'.ownsRow w.heap.size 3 1 v (momP (d * 86400 + s) 0 first cs).length ((momP (d * 86400 + s) 0 first cs).map (Value.int .i64))) ∧ w.grownBy w' none := by
  have hza : ∀ o : Obj, ZoneAt (w.alloc o) ao cs := fun o => hz.grown (World.grownBy_alloc _ _ _)
  have HZA := Lib.hid hza; have HZ := Lib.hid hz; have HCL := Lib.hid hcl; clear hza hz hcl
  go_enter Try.func31, Try.ntmps31
  go_wp2_with fail
  refine (rcheckZone_is HCL.out (HZA.out _) hok).mono ?_
  rintro x w1 ⟨rfl, hg1⟩
  have hga := grown_trans (World.grownBy_alloc w (.cells #[.int .i64 first, .slice ao cs.length cap] 40) none) hg1
  have hb0 : w1.cell? ⟨w.heap.size, 0, none⟩ = some (.int .i64 first) := grown_cell hg1 (by simp)
  have hb1 : w1.cell? ⟨w.heap.size, 1, none⟩ = some (.slice ao cs.length cap) := grown_cell hg1 (by simp)
  clear hg1
  go_wp2_with (go_at_call 38; refine (outside_no _ _ _ (by omega) (by omega) _).mono ?_; rintro x w2 ⟨rfl, rfl⟩)
  obtain ⟨z0, z1, z2, z3⟩ := zone_ok hok.out
  have z0i : (cs.length : Int) ≤ 200 := by omega
  have hck := chk_all cs (-1) z3
  have HCK := Lib.hid hck; have HG1 := Lib.hid hga; have HB := Lib.hid (And.intro hb0 hb1); clear hck hga hb0 hb1 z0 z3
  go_loopw [9, 10] (fun lv kv wr => ∃ (j : Nat) (xs : List Int), j ≤ cs.length + 1 ∧ kv = .int .i64 ((j : Int) - 1) ∧ Hid (xs = found first cs (d * 86400 + s) ((offs first cs).take j)) ∧ w1.grownBy wr none ∧ Hid (wr.ownsRow w1.heap.size 3 1 lv xs.length (xs.map (Value.int .i64))))
    (fun _ kv _ => cs.length + 1 - (intOf kv + 1).toNat)
  case atStart => exact ⟨0, [], Nat.zero_le _, rfl, rfl, grown_refl _ _, World.ownsRow_nil _ _ _ _⟩
  case round =>
    obtain ⟨j, xs, hj, rfl, hxs, hg, hown⟩ := hrel
    have kb0 := grown_cell hg HB.out.1
    have kb1 := grown_cell hg HB.out.2
    by_cases hlt : j < cs.length + 1
    · have hlo : j < (offs first cs).length := by simpa [offs] using hlt
      have hfs := found_succ first cs (d * 86400 + s) (offs first cs) j hlo
      rw [← hxs.out] at hfs
      have hxl : xs.length ≤ j := by
        have := found_len first cs (d * 86400 + s) ((offs first cs).take j) []
        rw [hxs.out]; unfold found
        rw [List.length_take] at this
        simp only [List.length_nil] at this
        omega
      have hxl2 : (xs.length : Int) ≤ 201 := by omega
      obtain ⟨o, ho⟩ : ∃ o, (offs first cs)[j] = o := ⟨_, rfl⟩
      rw [ho] at hfs
      obtain ⟨m, hm⟩ : ∃ m, d * 86400 + s - 60 * o = m := ⟨_, rfl⟩
      rcases hoe : offE first cs m with ⟨q, e⟩
      have HFS := Lib.hid hfs; have HOE := Lib.hid hoe; have HZ2 := Lib.hid (HZ.out.grown (grown_trans HG1.out hg)); clear hfs hoe hxs
      rcases j with _ | i
      · have ho' : first = o := by simpa [offs] using ho
        subst ho'
        clear ho hlo
        simp only [Int.natCast_zero, Int.zero_sub]
        go_wp2_with fail
        refine (roffset_is HCL.out HZ2.out HOE).mono ?_
        rintro x w3 ⟨rfl, hg3⟩
        have hgw := grown_trans hg hg3
        have hown3 := own_grown hown.out hg3
        have HOWN := Lib.hid hown3; clear hg3 hown3 hg hown kb0 kb1
        by_cases hin : e = 0 ∧ q = first
        · obtain ⟨rfl, hqo⟩ := hin
          have hst : foundStep first cs (d * 86400 + s) xs first = if m ∉ xs then xs ++ [m] else xs := by
            unfold foundStep; rw [hm, HOE.out, hqo]; simp
          have HST := Lib.hid hst; clear hst
          obtain ⟨lo, lcap, rfl, hls⟩ := own_shape HOWN.out
          have HLS := Lib.hid hls; clear hls
          go_wp2_with fail
          go_loopw [15, 70] (fun nv iv wr2 => ∃ (t : Nat) (kn : Bool), t ≤ xs.length ∧ nv = .bool kn ∧ iv = .int .i64 t ∧ wr2 = w3 ∧ Hid (kn = decide (m ∈ xs.take t))) (fun _ iv _ => xs.length - (intOf iv).toNat)
          case atStart => exact ⟨0, false, Nat.zero_le _, rfl, rfl, rfl, by show _ = _; simp⟩
          case round =>
            obtain ⟨t, kn, ht, rfl, rfl, rfl, hkn⟩ := hrel
            by_cases htl : t < xs.length
            · obtain ⟨g, rfl, hct⟩ := HLS.out t htl
              obtain ⟨x, hx⟩ : ∃ x, xs[t] = x := ⟨_, rfl⟩
              have htk : decide (m ∈ xs.take (t + 1)) = (kn || decide (x = m)) := by
                rw [hkn.out, List.take_succ_eq_append_getElem htl, hx]
                exact mem_step m x _
              rw [hx] at hct
              have HTK := Lib.hid htk; clear htk hx
              cases kn
              · by_cases hxm : x = m
                · go_wp2_with fail
                  exact ⟨⟨t + 1, _, by omega, rfl, by simp, trivial, by show _ = _; rw [HTK.out]; simp [hxm]⟩, by simp [intOf]; omega⟩
                · go_wp2_with fail
                  exact ⟨⟨t + 1, _, by omega, rfl, by simp, trivial, by show _ = _; rw [HTK.out]; simp [hxm]⟩, by simp [intOf]; omega⟩
              · go_wp2_with fail
                exact ⟨⟨t + 1, _, by omega, rfl, by simp, trivial, by show _ = _; rw [HTK.out]; simp⟩, by simp [intOf]; omega⟩
            · have hte : t = xs.length := by omega
              subst hte
              have hkm := hkn.out
              rw [List.take_length] at hkm
              cases kn
              · have hnm : m ∉ xs := by simpa using hkm.symm
                have HNM := Lib.hid hnm; clear hnm hkm hkn
                obtain ⟨i0, hi0, hz0, hz1, hz2⟩ := info_parts info_int
                go_wp2_with (at_builtin; refine wpList_append_own _ rfl _ _ 29 rfl w1.heap.size 3 i0 (.int .i64 0) 1 8 Try.underlying29 hi0 hz0 hz1 hz2 rfl (by decide) _ _ _ rfl (HOWN.out.alloc _) ⟨_, 0, none⟩ 1 1 [.int .i64 m] rfl rfl ?c1 ?c2 ?c3 ?c4 ?c5 ?_)
                case c1 =>
                  intro j u hj
                  match j, hj with
                  | 0, hj => simp at hj; subst hj; simp [Addr.add]
                case c2 => intro u hu; simp at hu; subst hu; rfl
                case c3 => unfold maxLen; omega
                case c4 => omega
                case c5 => have := hgw.size; simp; omega
                intro v' w4 hown' hgrow' _
                have hlt4 := HOWN.out.lt
                have hg4 : w1.grownBy w4 none := (grown_trans hgw (World.grownBy_alloc _ _ _)).andThen hgrow' (fun j hj => .inl (hlt4 j hj).1)
                have HO4 := Lib.hid hown'; clear hown' hgrow' hi0 hz0 hz1 hz2 hlt4
                go_wp2_with fail
                refine ⟨⟨1, xs ++ [m], by omega, by first | rfl | (simp; try omega), by show _ = _; rw [HFS.out, HST.out, if_pos HNM.out], hg4, ?_⟩, by simp [intOf] <;> omega⟩
                show World.ownsRow _ _ _ _ _ _ _
                rw [List.length_append, List.map_append]
                exact HO4.out
              · have hnm : m ∈ xs := by simpa using hkm.symm
                have HNM := Lib.hid hnm; clear hnm hkm hkn
                go_wp2_with fail
                refine ⟨⟨1, xs, by omega, by first | rfl | (simp; try omega), by show _ = _; rw [HFS.out, HST.out, if_neg (fun h => h HNM.out)], hgw, HOWN.out⟩, by simp [intOf] <;> omega⟩
        · have hst : foundStep first cs (d * 86400 + s) xs first = xs := by
            unfold foundStep; rw [if_neg]; intro h; rw [hm, HOE.out] at h
            simp only [Prod.mk.injEq] at h
            exact hin ⟨h.1.2, h.1.1⟩
          have HST := Lib.hid hst; clear hst
          by_cases he : e = 0
          · have hq : (q != first) = true := by simpa using fun h => hin ⟨he, h⟩
            subst he
            clear hin
            go_wp2_with fail
            refine ⟨⟨1, xs, by omega, by first | rfl | (simp; try omega), by show _ = _; rw [HFS.out, HST.out], hgw, HOWN.out⟩, by simp [intOf] <;> omega⟩
          · have hq : (e != 0) = true := by simpa using he
            clear hin he
            go_wp2_with fail
            refine ⟨⟨1, xs, by omega, by first | rfl | (simp; try omega), by show _ = _; rw [HFS.out, HST.out], hgw, HOWN.out⟩, by simp [intOf] <;> omega⟩
      · have hi : i < cs.length := by omega
        obtain ⟨b, off, rfl⟩ := zone_some HZ.out (by intro h; rw [h] at hi; simp at hi)
        have hc1 := grown_cell (grown_trans HG1.out hg) (HZ.out.cells _ rfl i hi).2
        have ho' : cs[i].2 = o := by simpa [offs] using ho
        rw [ho'] at hc1
        have hck := (HCK.out i hi).2.2
        rw [ho'] at hck
        obtain ⟨o0, o1⟩ := hck
        have hii : (((i + 1 : Nat) : Int) - 1) = (i : Int) := by omega
        rw [hii]
        clear ho hlo ho' hii
        go_wp2_with fail
        refine (roffset_is HCL.out HZ2.out HOE).mono ?_
        rintro x w3 ⟨rfl, hg3⟩
        have hgw := grown_trans hg hg3
        have hown3 := own_grown hown.out hg3
        have HOWN := Lib.hid hown3; clear hg3 hown3 hg hown kb0 kb1
        by_cases hin : e = 0 ∧ q = o
        · obtain ⟨rfl, hqo⟩ := hin
          have hst : foundStep first cs (d * 86400 + s) xs o = if m ∉ xs then xs ++ [m] else xs := by
            unfold foundStep; rw [hm, HOE.out, hqo]; simp
          have HST := Lib.hid hst; clear hst
          obtain ⟨lo, lcap, rfl, hls⟩ := own_shape HOWN.out
          have HLS := Lib.hid hls; clear hls
          go_wp2_with fail
          go_loopw [15, 70] (fun nv iv wr2 => ∃ (t : Nat) (kn : Bool), t ≤ xs.length ∧ nv = .bool kn ∧ iv = .int .i64 t ∧ wr2 = w3 ∧ Hid (kn = decide (m ∈ xs.take t))) (fun _ iv _ => xs.length - (intOf iv).toNat)
          case atStart => exact ⟨0, false, Nat.zero_le _, rfl, rfl, rfl, by show _ = _; simp⟩
          case round =>
            obtain ⟨t, kn, ht, rfl, rfl, rfl, hkn⟩ := hrel
            by_cases htl : t < xs.length
            · obtain ⟨g, rfl, hct⟩ := HLS.out t htl
              obtain ⟨x, hx⟩ : ∃ x, xs[t] = x := ⟨_, rfl⟩
              have htk : decide (m ∈ xs.take (t + 1)) = (kn || decide (x = m)) := by
                rw [hkn.out, List.take_succ_eq_append_getElem htl, hx]
                exact mem_step m x _
              rw [hx] at hct
              have HTK := Lib.hid htk; clear htk hx
              cases kn
              · by_cases hxm : x = m
                · go_wp2_with fail
                  exact ⟨⟨t + 1, _, by omega, rfl, by simp, trivial, by show _ = _; rw [HTK.out]; simp [hxm]⟩, by simp [intOf]; omega⟩
                · go_wp2_with fail
                  exact ⟨⟨t + 1, _, by omega, rfl, by simp, trivial, by show _ = _; rw [HTK.out]; simp [hxm]⟩, by simp [intOf]; omega⟩
              · go_wp2_with fail
                exact ⟨⟨t + 1, _, by omega, rfl, by simp, trivial, by show _ = _; rw [HTK.out]; simp⟩, by simp [intOf]; omega⟩
            · have hte : t = xs.length := by omega
              subst hte
              have hkm := hkn.out
              rw [List.take_length] at hkm
              cases kn
              · have hnm : m ∉ xs := by simpa using hkm.symm
                have HNM := Lib.hid hnm; clear hnm hkm hkn
                obtain ⟨i0, hi0, hz0, hz1, hz2⟩ := info_parts info_int
                go_wp2_with (at_builtin; refine wpList_append_own _ rfl _ _ 29 rfl w1.heap.size 3 i0 (.int .i64 0) 1 8 Try.underlying29 hi0 hz0 hz1 hz2 rfl (by decide) _ _ _ rfl (HOWN.out.alloc _) ⟨_, 0, none⟩ 1 1 [.int .i64 m] rfl rfl ?d1 ?d2 ?d3 ?d4 ?d5 ?_)
                case d1 =>
                  intro j u hj
                  match j, hj with
                  | 0, hj => simp at hj; subst hj; simp [Addr.add]
                case d2 => intro u hu; simp at hu; subst hu; rfl
                case d3 => unfold maxLen; omega
                case d4 => omega
                case d5 => have := hgw.size; simp; omega
                intro v' w4 hown' hgrow' _
                have hlt4 := HOWN.out.lt
                have hg4 : w1.grownBy w4 none := (grown_trans hgw (World.grownBy_alloc _ _ _)).andThen hgrow' (fun j hj => .inl (hlt4 j hj).1)
                have HO4 := Lib.hid hown'; clear hown' hgrow' hi0 hz0 hz1 hz2 hlt4
                go_wp2_with fail
                refine ⟨⟨i + 2, xs ++ [m], by omega, by first | rfl | (simp; try omega), by show _ = _; rw [HFS.out, HST.out, if_pos HNM.out], hg4, ?_⟩, by simp [intOf] <;> omega⟩
                show World.ownsRow _ _ _ _ _ _ _
                rw [List.length_append, List.map_append]
                exact HO4.out
              · have hnm : m ∈ xs := by simpa using hkm.symm
                have HNM := Lib.hid hnm; clear hnm hkm hkn
                go_wp2_with fail
                refine ⟨⟨i + 2, xs, by omega, by first | rfl | (simp; try omega), by show _ = _; rw [HFS.out, HST.out, if_neg (fun h => h HNM.out)], hgw, HOWN.out⟩, by simp [intOf] <;> omega⟩
        · have hst : foundStep first cs (d * 86400 + s) xs o = xs := by
            unfold foundStep; rw [if_neg]; intro h; rw [hm, HOE.out] at h
            simp only [Prod.mk.injEq] at h
            exact hin ⟨h.1.2, h.1.1⟩
          have HST := Lib.hid hst; clear hst
          by_cases he : e = 0
          · have hq : (q != o) = true := by simpa using fun h => hin ⟨he, h⟩
            subst he
            clear hin
            go_wp2_with fail
            refine ⟨⟨i + 2, xs, by omega, by first | rfl | (simp; try omega), by show _ = _; rw [HFS.out, HST.out], hgw, HOWN.out⟩, by simp [intOf] <;> omega⟩
          · have hq : (e != 0) = true := by simpa using he
            clear hin he
            go_wp2_with fail
            refine ⟨⟨i + 2, xs, by omega, by first | rfl | (simp; try omega), by show _ = _; rw [HFS.out, HST.out], hgw, HOWN.out⟩, by simp [intOf] <;> omega⟩
    · have hje : j = cs.length + 1 := by omega
      subst hje
      have hfull : xs = found first cs (d * 86400 + s) (offs first cs) := by
        rw [hxs.out, List.take_of_length_le (by simp [offs])]
      have hkk : ((cs.length + 1 : Nat) : Int) - 1 = (cs.length : Int) := by omega
      rw [hkk]
      obtain ⟨lo, lcap, rfl, hls⟩ := own_shape hown.out
      have hxl : (xs.length : Int) ≤ 201 := by
        have := found_len first cs (d * 86400 + s) (offs first cs) []
        rw [hfull]; unfold found
        simp only [List.length_nil, offs, List.length_cons, List.length_map] at this
        simp only [offs]
        omega
      obtain ⟨n, hn⟩ : ∃ n, xs.length = n := ⟨_, rfl⟩
      have hlo : 0 < n → ∃ g, lo = some ⟨g, 0, none⟩ := fun h => by
        obtain ⟨g, hg, _⟩ := hls 0 (by omega); exact ⟨g, hg⟩
      have HFULL := Lib.hid hfull; have HLO := Lib.hid hlo; clear hfull hxs hkk hls hlo
      have hown0 := hown.out
      rw [hn] at hown0 hxl
      rw [hn]
      have HOWN := Lib.hid hown0; have HN := Lib.hid hn; clear hown hown0 hn
      go_wp2_with fail
      clear kb0 kb1
      go_loopw [89] (fun iv wt => ∃ (i : Nat) (ys : List Int), i ≤ n ∧ iv = .int .i64 i ∧ Hid (ys.length = n ∧ ys.Perm xs ∧ Upto ys i) ∧ w1.grownBy wt none ∧ Hid (wt.ownsRow w1.heap.size 3 1 (.slice lo n lcap) n (ys.map (Value.int .i64))))
        (fun iv _ => n - (intOf iv).toNat)
      case atStart => exact ⟨0, xs, Nat.zero_le _, rfl, ⟨HN.out, List.Perm.refl _, fun a b h1 h2 => by omega⟩, hg, HOWN.out⟩
      case round =>
        obtain ⟨i, ys, hi, rfl, hys, hgt, howt⟩ := hrel
        by_cases hin : i < n
        · obtain ⟨g, rfl⟩ := HLO.out (by omega)
          go_wp2_with fail
          go_loopw [19] (fun kv wt2 => ∃ (k : Nat) (zs : List Int), k ≤ i ∧ kv = .int .i64 k ∧ Hid (zs.length = n ∧ zs.Perm xs ∧ InsInv zs i k) ∧ w1.grownBy wt2 none ∧ Hid (wt2.ownsRow w1.heap.size 3 1 (.slice (some ⟨g, 0, none⟩) n lcap) n (zs.map (Value.int .i64))))
            (fun kv _ => (intOf kv).toNat)
          case atStart => exact ⟨i, ys, Nat.le_refl _, rfl, ⟨hys.out.1, hys.out.2.1, ins_start hys.out.2.2⟩, hgt, howt.out⟩
          case round =>
            obtain ⟨k, zs, hk, rfl, hzs, hgu, howu⟩ := hrel
            rcases k with _ | k
            · simp only [Int.natCast_zero]
              go_wp2_with fail
              go_region
              all_goals go_wp2_with fail
              all_goals exact ⟨⟨i + 1, zs, by omega, by simp, ⟨hzs.out.1, hzs.out.2.1, ins_end hzs.out.2.2 (by omega) (.inl rfl)⟩, grown_trans hgu (grown_drew _ _), howu.out.drew⟩, by simp [intOf]; omega⟩
            · have ck := own_at howu.out hzs.out.1 (k := k) (by omega)
              have ck1 := own_at howu.out hzs.out.1 (k := k + 1) (by omega)
              obtain ⟨x, hx⟩ : ∃ x, at0 zs k = x := ⟨_, rfl⟩
              obtain ⟨y, hy⟩ : ∃ y, at0 zs (k + 1) = y := ⟨_, rfl⟩
              rw [hx] at ck
              rw [hy] at ck1
              have HXY := Lib.hid (And.intro hx hy); clear hx hy
              have hk1 : (((k + 1 : Nat)) : Int) = (k : Int) + 1 := by omega
              rw [hk1]
              clear hk1
              have fk := own_free howu.out k
              have fk1 := own_free howu.out (k + 1)
              have e1 : ∀ v, (wr.setCell ⟨g, k + 1, none⟩ (.int .i64 v)).cell? ⟨g, k, none⟩ = some (.int .i64 x) := fun v => by
                rw [own_at (own_set howu.out (k := k + 1) (by omega) v) (by rw [List.length_set]; exact hzs.out.1) (k := k) (by omega), ← HXY.out.1]
                simp [at0]
              have e2 : ∀ v, (wr.setCell ⟨g, k, none⟩ (.int .i64 v)).cell? ⟨g, k + 1, none⟩ = some (.int .i64 y) := fun v => by
                rw [own_at (own_set howu.out (k := k) (by omega) v) (by rw [List.length_set]; exact hzs.out.1) (k := k + 1) (by omega), ← HXY.out.2]
                simp [at0]
              by_cases hyx : y < x
              · go_wp2_with fail
                go_region
                all_goals go_wp2_with fail
                go_region
                all_goals go_wp2_with fail
                have hgb := (howu.out.lt g rfl).1
                have ho := ((own_set (own_set howu.out (k := k + 1) (by omega) x) (k := k) (by omega) y).drew).drew
                rw [show (zs.set (k + 1) x).set k y = swap zs k by unfold swap; rw [HXY.out.1, HXY.out.2]] at ho
                exact ⟨⟨k, swap zs k, by omega, rfl, ⟨by rw [swap_len]; exact hzs.out.1, (swap_perm zs k (by have := hzs.out.1; omega)).trans hzs.out.2.1, ins_step hzs.out.2.2 hk (by have := hzs.out.1; omega) (by rw [HXY.out.1, HXY.out.2]; exact hyx)⟩,
                  grown_trans (own_grow (own_grow hgu hgb _ _) hgb _ _) (grown_trans (grown_drew _ _) (grown_drew _ _)), ho⟩, by simp [intOf]⟩
              · go_wp2_with fail
                go_region
                all_goals go_wp2_with fail
                all_goals exact ⟨⟨i + 1, zs, by omega, by simp, ⟨hzs.out.1, hzs.out.2.1, ins_end hzs.out.2.2 (by omega) (.inr (by rw [Nat.add_sub_cancel, HXY.out.1, HXY.out.2]; omega))⟩, grown_trans hgu (grown_drew _ _), howu.out.drew⟩, by simp [intOf]; omega⟩
        · have hie : i = n := by omega
          subst hie
          go_wp2_with fail
          go_ret2
          refine ⟨⟨_, rfl, ?_⟩, grown_trans HG1.out hgt⟩
          have hxs := HFULL.out
          obtain ⟨y1, y2, y3⟩ := hys.out
          have hz3 := (zone_ok hok.out).2.2.2
          have e : ys = momP (d * 86400 + s) 0 first cs := by
            refine sorted_is _ ys ?_ ?_ (momP_rises _ cs 0 first (-1) hz3 (by omega) (by omega)) fun x => ?_
            · rw [← y1] at y3; exact upto_sorted y3
            · rw [y2.nodup_iff, hxs]; exact found_nodup _ _ _ _ _ List.nodup_nil
            · rw [y2.mem_iff, hxs]; exact found_is first cs _ x hok.out
          rw [← e, y1]
          exact own_base howt.out (by have := HG1.out.size; omega)
end Go.Proofs.Ytfgemdfloeknfaa
