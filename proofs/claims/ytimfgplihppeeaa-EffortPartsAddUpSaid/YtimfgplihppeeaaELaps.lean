/- The contracts of lapsTo, EveryWay and EveryTime. -/
import Derived.Test.YtimfgplihppeeaaELapP
import Derived.Test.YtimfgplihppeeaaEStream
namespace Go.Proofs.Ytimfgplihppeeaa
open Go.RowKit

def lapCs (x : Int × Int) : List Value := [.int .i64 x.1, .int .i64 x.2, .string ⟨#[]⟩]
def lapsVs (L : List (Int × Int)) : List Value := L.flatMap lapCs
theorem lapsVs_snoc (L : List (Int × Int)) (x : Int × Int) : lapsVs (L ++ [x]) = lapsVs L ++ lapCs x := by simp [lapsVs]
theorem lapCs_one (x : Int × Int) : ∀ u ∈ lapCs x, u.oneCell' = true := by
  intro u hu
  unfold lapCs at hu
  simp only [List.mem_cons, List.not_mem_nil, or_false] at hu
  rcases hu with rfl | rfl | rfl <;> rfl
theorem lapCs_new (w : World) (a b : Int) (t : TypeId) : ∀ j u, [Value.int .i64 a, .int .i64 b, .string ⟨#[]⟩][j]? = some u → (w.alloc (.cells #[.int .i64 a, .int .i64 b, .string ⟨#[]⟩] t)).cell? ((⟨w.heap.size, 0, none⟩ : Addr).add j) = some u := by
  intro j u hu
  have e : (⟨w.heap.size, 0, none⟩ : Addr).add j = ⟨w.heap.size, j, none⟩ := by unfold Addr.add; split <;> simp_all
  rw [e]
  have hh := heap_alloc_new w (.cells #[.int .i64 a, .int .i64 b, .string ⟨#[]⟩] t)
  exact (cell_of_row _ _ j _ _ (0, 0) hh).trans (by simpa using hu)
theorem info_lap : (Try.prog.info? 64).map (fun i => (i.zero, i.size, i.bytes)) = some (some (.agg #[.int .i64 0, .int .i64 0, .string ⟨#[]⟩]), 3, 32) := by kernel_rfl

/-- Laps, if they are not too many. -/
def lapsOut (L : List (Int × Int)) : List (Int × Int) × Int := if L.length ≤ 200 then (L, 0) else ([], 3)

theorem intsAt_own {w : World} {base : Nat} {v : Value} {L : List Int} (h : w.ownsRow base 3 1 v L.length (ints L)) : ∃ ao cap, v = .slice ao L.length cap ∧ IntsAt w ao L ∧ (v.ownBlock = ao.map (·.block)) := by
  rcases h.2 with ⟨hv, h0⟩ | ⟨g, cap, cur, hv, hb, hg, rest⟩
  · have hL : L = [] := List.eq_nil_of_length_eq_zero h0
    exact ⟨none, 0, by rw [hv, h0], ⟨fun _ => hL, fun a h => (by cases h), fun a h => (by cases h)⟩, by rw [hv]; rfl⟩
  · have hc : ∀ j, j < L.length → w.cell? ⟨g, j, none⟩ = some (.int .i64 (nthI L j)) := fun j hj => by
      have := h.cells (g := g) (by rw [hv]; rfl) j (.int .i64 (nthI L j)) (by
        unfold ints
        rw [List.getElem?_map, List.getElem?_eq_getElem hj, nthI_at hj]; rfl)
      have e : (⟨g, 0, none⟩ : Addr).add j = ⟨g, j, none⟩ := by unfold Addr.add; split <;> simp_all
      rw [e] at this; exact this
    refine ⟨some ⟨g, 0, none⟩, cap, hv, ⟨fun h => (by cases h), fun a h _ => (by cases h; rfl), fun a h j hj => ?_⟩, by rw [hv]; rfl⟩
    cases h
    simpa using hc j hj
theorem nthI_drop {l : List Int} {k : Nat} (h : k < l.length) : l.drop k = nthI l k :: l.drop (k + 1) := by
  rw [List.drop_eq_getElem_cons h, nthI_at h]

theorem own_form5 {w : World} {base n : Nat} {e : TypeId} {size : Nat} {v : Value} {xs : List Value} (h : w.ownsRow base e size v (n + 1) xs) : ∃ g cap, v = .slice (some ⟨g, 0, none⟩) (n + 1) cap := by
  rcases h.2 with ⟨_, h0⟩ | ⟨g, cap, cur, h1, _⟩
  · omega
  · exact ⟨g, cap, h1⟩

set_option maxRecDepth 100000 in
set_option maxHeartbeats 3200000 in
theorem lapsTo_any {base : Nat} {v : Value} {E : List Int} (span : Int) (w : World) (hb : base ≤ w.heap.size) (ho : w.ownsRow base 3 1 v E.length (ints E)) (hn : E.length ≤ 1000000) {R : List (Int × Int)} {Er : Int} (hR : Hid (lapsOut (lapL 0 (E ++ [span])) = (R, Er))) :
    Calls Try.prog 94 #[v, .int .i64 span] w fun e w' => (∃ u, e = .returned (.tuple #[u, .int .i64 Er]) ∧ w'.ownsRow w.heap.size 64 3 u R.length (lapsVs R)) ∧ w.grownBy w' v.ownBlock := by
  obtain ⟨i0, hi, hz0, hz1, hz2⟩ := info_parts info_int
  obtain ⟨j0, ji, jz0, jz1, jz2⟩ := info_parts info_lap
  have HJI := Lib.hid ji; have HJ0 := Lib.hid jz0; have HJ1 := Lib.hid jz1; have HJ2 := Lib.hid jz2
  have HO := Lib.hid ho; have HBS := Lib.hid hb
  clear ji jz0 jz1 jz2 ho hb
  go_enter Try.func94, Try.ntmps94
  go_wp2_with (at_builtin; refine wpList_append_own_at _ rfl _ _ 55 rfl base 3 i0 (.int .i64 0) 1 8 Try.underlying55 hi hz0 hz1 hz2 rfl (by decide) _ _ _ rfl (HO.out.alloc _) ⟨w.heap.size, 0, none⟩ 1 1 [.int .i64 span] rfl rfl (cell_one_new w (.int .i64 span) 3) (by intro u hu; simp at hu; subst hu; rfl) (by unfold maxLen; omega) (by omega) (by have := HBS.out; simp; omega) ?_; intro v' w2 hown' hgrow' _ hat'; obtain ⟨g9, cap9, rfl⟩ := own_form5 hown')
  have HE2 : Hid (w2.ownsRow base 3 1 (.slice (some ⟨g9, 0, none⟩) (E.length + 1) cap9) (E ++ [span]).length (ints (E ++ [span]))) := by
    show World.ownsRow _ _ _ _ _ _ _; rw [ints_snoc, List.length_append]; exact hown'
  have HG2 : Hid (w.grownBy w2 v.ownBlock) := grown_row (grown_none (grown_refl _ _)) hgrow' (fun k hk => .inl hk)
  obtain ⟨M, hM⟩ : ∃ M, E ++ [span] = M := ⟨_, rfl⟩
  rw [hM] at HE2 hR
  have hml : M.length ≤ 1000001 := by rw [← hM, List.length_append]; simp; omega
  have hv' : M.length = E.length + 1 := by rw [← hM, List.length_append]; rfl
  obtain ⟨ao, cap, he, hI, hob⟩ := intsAt_own HE2.out
  injection he with he1 he2 he3
  subst he1
  have HI := Lib.hid hI
  obtain ⟨L0, hL0⟩ : ∃ L0, lapL 0 M = L0 := ⟨_, rfl⟩
  rw [hL0] at hR
  have HL0 : Hid ([] ++ lapL 0 (M.drop 0) = L0) := hL0
  have HV' := Lib.hid hv'
  clear hown' hgrow' hat' hM hI hob hL0 hi hz0 hz1 hz2 hv' he2 he3 HE2
  go_wp2_with fail
  go_loopw [6, 7, 15] (fun fv lv iv wr => ∃ (k : Nat) (fr : Int) (L : List (Int × Int)) (u : Value), fv = .int .i64 fr ∧ u = lv ∧ iv = .int .i64 k ∧ k ≤ E.length + 1 ∧ Hid (wr.ownsRow w2.heap.size 64 3 u L.length (lapsVs L)) ∧ L.length ≤ 200 ∧ Hid (w2.grownBy wr none) ∧ Hid (L ++ lapL fr (M.drop k) = L0))
    (fun _ _ iv _ => E.length + 1 - (intOf iv).toNat)
  case atStart => exact ⟨0, 0, [], _, rfl, rfl, rfl, Nat.zero_le _, World.ownsRow_nil _ _ _ _, Nat.zero_le _, grown_refl _ _, HL0.out⟩
  case round =>
    obtain ⟨k, fr, L, u, rfl, rfl, rfl, hk, hown, hl2, hg, hw⟩ := hrel
    have hme := HV'.out
    by_cases hlt : k < E.length + 1
    · have hltM : k < M.length := by omega
      have c0 : wr.cell? ⟨g9, k, none⟩ = some (.int .i64 (nthI M k)) := by simpa using grown_cell hg.out (HI.out.cells _ rfl k hltM)
      clear hme
      have hw2 := hw.out
      rw [nthI_drop hltM, lapL] at hw2
      have HW2 := Lib.hid hw2
      clear hw hw2
      generalize nthI M k = x at *
      by_cases hx : fr = x
      · have hf : L = L0 := by have := HW2.out; rw [if_pos hx, List.append_nil] at this; exact this
        have HX := Lib.hid hx
        have hb : (fr == x) = true := by simpa using hx
        have HF := Lib.hid hf
        have HR2 : Hid (R = L ∧ Er = 0) := by
          have := hR.out; unfold lapsOut at this; rw [← HF.out, if_pos hl2] at this
          simp only [Prod.mk.injEq] at this; exact ⟨this.1.symm, this.2.symm⟩
        obtain ⟨rfl, rfl⟩ := HR2.out
        have HOW : Hid (wr.ownsRow w.heap.size 64 3 u R.length (lapsVs R)) := ⟨hown.out.1, hown.out.2.imp id fun ⟨g, cap, cur, h1, h2, h3⟩ => ⟨g, cap, cur, h1, by have := HG2.out.size; omega, h3⟩⟩
        have HGF : Hid (w.grownBy wr v.ownBlock) := grown_then HG2.out hg.out
        clear hx hf HW2 hown hg HR2
        go_wp2_with fail
        go_ret2
        exact ⟨⟨_, rfl, HOW.out⟩, HGF.out⟩
      · have hb : (fr == x) = false := by simpa using hx
        have HW3 : Hid (L ++ (fr, x) :: lapL x (M.drop (k + 1)) = L0) := by have := HW2.out; rw [if_neg hx] at this; exact this
        clear HW2 hx
        by_cases hl200 : L.length = 200
        · have HR2 : Hid (R = [] ∧ Er = 3) := by
            have := hR.out; unfold lapsOut at this
            rw [if_neg (by rw [← HW3.out]; simp; omega)] at this
            simp only [Prod.mk.injEq] at this; exact ⟨this.1.symm, this.2.symm⟩
          obtain ⟨rfl, rfl⟩ := HR2.out
          have HGF : Hid (w.grownBy wr v.ownBlock) := grown_then HG2.out hg.out
          obtain ⟨uo, uc, rfl⟩ : ∃ ao cap, u = .slice ao L.length cap := by
            rcases hown.out.2 with ⟨hv, h0⟩ | ⟨g, cap, cur, hv, _⟩
            · exact ⟨none, 0, by rw [hv, h0]⟩
            · exact ⟨_, _, hv⟩
          rw [hl200]
          clear hown hg HR2 HW3
          go_wp2_with fail
          go_ret2
          exact ⟨⟨_, rfl, World.ownsRow_nil _ _ _ _⟩, HGF.out⟩
        · obtain ⟨uo, uc, hu⟩ : ∃ ao cap, u = .slice ao L.length cap := by
            rcases hown.out.2 with ⟨hv, h0⟩ | ⟨g, cap, cur, hv, _⟩
            · exact ⟨none, 0, by rw [hv, h0]⟩
            · exact ⟨_, _, hv⟩
          subst hu
          have n200 : ((L.length : Int) == 200) = false := by rw [beq_eq_false_iff_ne]; omega
          have ji := HJI.out; have jz0 := HJ0.out; have jz1 := HJ1.out; have jz2 := HJ2.out
          have OWN := Lib.hid hown.out
          have HB2 : Hid (w2.heap.size ≤ wr.heap.size) := hg.out.size
          have hl199 : Hid (L.length ≤ 199) := by show _ ≤ _; omega
          have hl201 : L.length ≤ 199 := by omega
          clear hown hl200
          go_wp2_with (at_builtin; refine wpList_append_own _ rfl _ _ 23 rfl w2.heap.size 64 j0 (.agg #[.int .i64 0, .int .i64 0, .string ⟨#[]⟩]) 3 32 Try.underlying23 ji jz0 jz1 jz2 rfl (by decide) _ _ _ rfl (OWN.out.alloc _) ⟨wr.heap.size, 0, none⟩ 1 1 [.int .i64 fr, .int .i64 x, .string ⟨#[]⟩] rfl rfl (lapCs_new wr fr x 64) (lapCs_one (fr, x)) (by unfold maxLen; omega) (by omega) (by have := HB2.out; simp; omega) ?_; intro u' w4 hown4 hgrow4 _)
          have HOW4 : Hid (w4.ownsRow w2.heap.size 64 3 u' (L ++ [(fr, x)]).length (lapsVs (L ++ [(fr, x)]))) := by
            show World.ownsRow _ _ _ _ _ _ _; rw [lapsVs_snoc, List.length_append]; exact hown4
          have HG4 : Hid (w2.grownBy w4 none) := grown_own hg.out hgrow4 (fun g e => (OWN.out.lt g e).1)
          have HW4 : Hid ((L ++ [(fr, x)]) ++ lapL x (M.drop (k + 1)) = L0) := by show _ = _; rw [List.append_assoc]; exact HW3.out
          clear hown4 hgrow4 ji jz0 jz1 jz2 OWN hg HW3
          go_wp2_with fail
          go_roundw
          case rel => exact ⟨k + 1, x, L ++ [(fr, x)], _, rfl, rfl, by go_num, by omega, HOW4.out, by have := hl199.out; simp; omega, HG4.out, HW4.out⟩
          case measure => simp [intOf]; omega
    · have hf : L = L0 := by have := hw.out; rw [List.drop_eq_nil_of_le (by omega)] at this; simpa [lapL] using this
      have HF := Lib.hid hf
      have HR2 : Hid (R = L ∧ Er = 0) := by
        have := hR.out; unfold lapsOut at this; rw [← HF.out, if_pos hl2] at this
        simp only [Prod.mk.injEq] at this; exact ⟨this.1.symm, this.2.symm⟩
      obtain ⟨rfl, rfl⟩ := HR2.out
      have HOW : Hid (wr.ownsRow w.heap.size 64 3 u R.length (lapsVs R)) := ⟨hown.out.1, hown.out.2.imp id fun ⟨g, cap, cur, h1, h2, h3⟩ => ⟨g, cap, cur, h1, by have := HG2.out.size; omega, h3⟩⟩
      have HGF : Hid (w.grownBy wr v.ownBlock) := grown_then HG2.out hg.out
      clear hf hw hown hg HR2 HF
      go_wp2_with fail
      go_ret2
      exact ⟨⟨_, rfl, HOW.out⟩, HGF.out⟩

end Go.Proofs.Ytimfgplihppeeaa
