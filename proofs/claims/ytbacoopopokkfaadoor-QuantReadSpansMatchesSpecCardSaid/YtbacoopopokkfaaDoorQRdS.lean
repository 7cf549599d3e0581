/- The contract of ReadSpans. -/
import Derived.Test.YtbacoopopokkfaaDoorQRdR
import Derived.Test.YtbacoopopokkfaaDoorQSetN
import Derived.Test.YtbacoopopokkfaaDoorQSetH
namespace Go.Proofs.YtbacoopopokkfaaDoor
open Go.RowKit Go.Shelf
set_option linter.unusedSimpArgs false
set_option linter.unusedVariables false

/-- Spans in order. -/
def srtS (L : List SpV) : List SpV := L.mergeSort fun x y => decide (x.fr ≤ y.fr)
theorem srtS_perm (L : List SpV) : (srtS L).Perm L := List.mergeSort_perm _ _
theorem srtS_pw (L : List SpV) : (srtS L).Pairwise fun x y => x.fr ≤ y.fr := by
  have q := List.pairwise_mergeSort (le := fun x y : SpV => decide (x.fr ≤ y.fr)) (fun x y z h1 h2 => by simp only [decide_eq_true_eq] at *; omega) (fun x y => by simp only [Bool.or_eq_true, decide_eq_true_eq]; omega) L
  exact q.imp fun h => of_decide_eq_true h
theorem jn_same {L S : List SpV} (hv : ∀ x ∈ L, x.fr ≤ x.to_) (hp : S.Perm L) (hs : S.Pairwise fun x y => x.fr ≤ y.fr) : jnL S = jnL (srtS L) := by
  obtain ⟨a1, a2, _⟩ := jn_ok S.length (Nat.le_refl _) hs (fun x hx => hv x (hp.mem_iff.1 hx))
  obtain ⟨b1, b2, _⟩ := jn_ok (srtS L).length (Nat.le_refl _) (srtS_pw L) (fun x hx => hv x ((srtS_perm L).mem_iff.1 hx))
  refine canon_ext a1 b1 fun s => ?_
  rw [a2 s, b2 s, cov_perm hp s, cov_perm (srtS_perm L) s]
def outB (x : SpV) : Bool := !decide (0 ≤ x.fr ∧ x.fr ≤ 1000000000000) || !decide (0 ≤ x.to_ ∧ x.to_ ≤ 1000000000000)
def revB (x : SpV) : Bool := decide (x.to_ < x.fr)
/-- What ReadSpans returns. -/
def rdsR (s : ByteArray) : List SpV × Int × Int :=
  if (rdR s).2.2 = 0 then
    (if (rdR s).1.any outB = true then ([], 0, 9)
    else if (rdR s).1.any revB = true then ([], 0, 10)
    else if 1000 < (jnL (srtS (rdR s).1)).length then ([], 0, 3) else (jnL (srtS (rdR s).1), 0, 0))
  else ([], (rdR s).2.1, (rdR s).2.2)
theorem idx_any (L : List SpV) (p : SpV → Bool) : (decide (0 ≤ idxR L p)) = L.any p := by
  unfold idxR
  rw [Bool.eq_iff_iff, decide_eq_true_eq, List.any_eq_true]
  constructor
  · intro h
    split at h
    · rename_i h2
      exact ⟨_, List.getElem_mem h2, List.findIdx_getElem (w := h2)⟩
    · omega
  · rintro ⟨x, hx, hp⟩
    rw [if_pos (List.findIdx_lt_length_of_exists ⟨x, hx, hp⟩)]; omega
theorem rdR_ok {s : ByteArray} {l : List SpV} {a e : Int} (h : rdR s = (l, a, e)) : InR l ∧ l.length ≤ 40001 := by
  unfold rdR at h
  have q := spsV_ok (rem s 0).length (R := rem s 0) (l := []) (u := 0) (Nat.le_refl _) (fun _ hx => by cases hx)
  split at h
  · simp only [Prod.mk.injEq] at h; rw [← h.1]; exact ⟨fun _ hx => (by cases hx), by simp⟩
  · rename_i hs
    split at h
    · simp only [Prod.mk.injEq] at h; rw [← h.1]
      refine ⟨q.1, ?_⟩
      have := q.2
      rw [rem_len] at this
      simp only [List.length_nil] at this; omega
    · simp only [Prod.mk.injEq] at h; rw [← h.1]; exact ⟨fun _ hx => (by cases hx), by simp⟩

set_option maxRecDepth 100000 in
theorem out1_is (x : SpV) (w : World) : Calls Tryd.prog 31 (#[.agg #[.int .i64 x.fr, .int .i64 x.to_]] ++ #[]) w fun e w' => e = .returned (.bool (outB x)) ∧ w.grownBy w' none := by
  obtain ⟨xf, xt⟩ := x
  show Calls Tryd.prog 31 #[.agg #[.int .i64 xf, .int .i64 xt]] w _
  obtain ⟨p, hp⟩ : ∃ p, decide (0 ≤ xf ∧ xf ≤ 1000000000000) = p := ⟨_, rfl⟩
  obtain ⟨q, hq⟩ : ∃ q, decide (0 ≤ xt ∧ xt ≤ 1000000000000) = q := ⟨_, rfl⟩
  have HB : Hid (outB ⟨xf, xt⟩ = (!p || !q)) := by show _ = _; unfold outB; simp only [hp, hq]
  have HP := Lib.hid hp; have HQ := Lib.hid hq
  clear hp hq
  cases p with
  | false =>
    go_enter Tryd.func31, Tryd.ntmps31
    go_wp2_with fail
    refine (inSets_is xf HP.out _).mono ?_; rintro e w1 ⟨rfl, rfl⟩
    go_wp2_with fail
    go_ret
    exact ⟨ret_bool (by rw [HB.out]; rfl), World.grownBy_alloc _ _ _⟩
  | true =>
    cases q with
    | false =>
      go_enter Tryd.func31, Tryd.ntmps31
      go_wp2_with fail
      refine (inSets_is xf HP.out _).mono ?_; rintro e w1 ⟨rfl, rfl⟩
      go_wp2_with fail
      refine (inSets_is xt HQ.out _).mono ?_; rintro e w1 ⟨rfl, rfl⟩
      go_wp2_with fail
      go_ret
      exact ⟨ret_bool (by rw [HB.out]; rfl), World.grownBy_alloc _ _ _⟩
    | true =>
      go_enter Tryd.func31, Tryd.ntmps31
      go_wp2_with fail
      refine (inSets_is xf HP.out _).mono ?_; rintro e w1 ⟨rfl, rfl⟩
      go_wp2_with fail
      refine (inSets_is xt HQ.out _).mono ?_; rintro e w1 ⟨rfl, rfl⟩
      go_wp2_with fail
      go_ret
      exact ⟨ret_bool (by rw [HB.out]; rfl), World.grownBy_alloc _ _ _⟩
set_option maxRecDepth 100000 in
theorem rev1_is (x : SpV) (w : World) : Calls Tryd.prog 33 (#[.agg #[.int .i64 x.fr, .int .i64 x.to_]] ++ #[]) w fun e w' => e = .returned (.bool (revB x)) ∧ w.grownBy w' none := by
  obtain ⟨xf, xt⟩ := x
  show Calls Tryd.prog 33 #[.agg #[.int .i64 xf, .int .i64 xt]] w _
  go_enter Tryd.func33, Tryd.ntmps33
  go_wp2_with fail
  go_ret
  exact ⟨rfl, World.grownBy_alloc _ _ _⟩

set_option maxRecDepth 100000 in
set_option maxHeartbeats 3200000 in
theorem ReadSpans_is (s : ByteArray) (hs : s.size ≤ 140737488351232) (w : World) {l : List SpV} {at_ e : Int} (hr : rdsR s = (l, at_, e)) :
    Calls Tryd.prog 12 #[.string s] w fun x w' => (∃ v, x = .returned (.tuple #[v, .int .i64 at_, .int .i64 e]) ∧ SpOwn w.heap.size w' v l) ∧ w.grownBy w' none := by
  obtain ⟨L, a0, e0, hq⟩ : ∃ L a0 e0, rdR s = (L, a0, e0) := ⟨_, _, _, rfl⟩
  obtain ⟨hin, hlen⟩ := rdR_ok hq
  unfold rdsR at hr
  rw [hq] at hr
  simp only at hr
  have HQ := Lib.hid hq; have HR := Lib.hid hr; have HIN := Lib.hid hin
  clear hq hr hin
  go_enter Tryd.func12, Tryd.ntmps12
  go_wp2_with fail
  have HP : Hid ((w.alloc (.cells #[.func (.func 30) #[] #[]] 91)).cell? ⟨w.heap.size, 0, none⟩ = some (.func (.func 30) #[] #[])) := mblock_cell (mheap_new w _) 0 _ rfl
  have GA := Lib.hid (World.grownBy_alloc w (.cells #[.func (.func 30) #[] #[]] 91) none)
  refine (readSp_is s hs w.heap.size 1 _ HP.out HQ.out).mono ?_
  rintro x w1 ⟨⟨v, rfl, ho⟩, hg1⟩
  have HG1 := Lib.hid (grown_trans GA.out hg1)
  have HO := Lib.hid (ho.low GA.out.size)
  obtain ⟨vo, vc, rfl, hrw⟩ := ho.rows
  have HRW := Lib.hid hrw
  clear ho hg1 hrw HP
  by_cases c0 : e0 = 0
  · subst c0
    have hr := HR.out
    simp only [↓reduceIte] at hr
    have hlI : (L.length : Int) ≤ 1000000 := by omega
    obtain ⟨p1, hp1⟩ : ∃ p, L.any outB = p := ⟨_, rfl⟩
    rw [hp1] at hr
    have HC1 := Lib.hid (fun W (hg : w1.grownBy W none) => containsSp_is vo vc L hlI 31 #[] outB W (HRW.out.grown hg) (enters_of Tryd.func31 (by kernel_rfl) rfl) (fun x _ W _ => out1_is x W) ((idx_any L outB).trans hp1))
    have HP1 := Lib.hid hp1
    clear HR hp1
    go_wp2_with fail
    refine (HC1.out _ (World.grownBy.refl _ _)).mono ?_; rintro x w2 ⟨rfl, hg2⟩
    have HG2 := Lib.hid (grown_trans HG1.out hg2)
    have HO2 := Lib.hid (HO.out.keep hg2)
    have HRW2 := Lib.hid (HRW.out.grown hg2)
    clear hg2 HC1 HO HRW
    cases p1 with
    | true =>
      simp only [↓reduceIte, Prod.mk.injEq] at hr
      obtain ⟨rfl, rfl, rfl⟩ := hr
      go_wp2_with fail
      go_ret3
      exact ⟨⟨_, rfl, SpOwn.nil _ _⟩, HG2.out⟩
    | false =>
      simp only [Bool.false_eq_true, ↓reduceIte] at hr
      obtain ⟨p2, hp2⟩ : ∃ p, L.any revB = p := ⟨_, rfl⟩
      rw [hp2] at hr
      have HR2 := Lib.hid hr
      have HC2 := Lib.hid (containsSp_is vo vc L hlI 33 #[] revB w2 HRW2.out (enters_of Tryd.func33 (by kernel_rfl) rfl) (fun x _ W _ => rev1_is x W) ((idx_any L revB).trans hp2))
      have HP2 := Lib.hid hp2
      clear hr hp2
      go_wp2_with fail
      refine HC2.out.mono ?_; rintro x w3 ⟨rfl, hg3⟩
      have HG3 := Lib.hid (grown_trans HG2.out hg3)
      have HO3 := Lib.hid (HO2.out.keep hg3)
      clear hg3 HC2 HO2 HRW2
      cases p2 with
      | true =>
        have hr := HR2.out
        simp only [↓reduceIte, Prod.mk.injEq] at hr
        obtain ⟨rfl, rfl, rfl⟩ := hr
        clear HR2
        go_wp2_with fail
        go_ret3
        exact ⟨⟨_, rfl, SpOwn.nil _ _⟩, HG3.out⟩
      | false =>
        have hr := HR2.out
        simp only [Bool.false_eq_true, ↓reduceIte] at hr
        have HIB : Hid (InB L) := fun x hx => by
          have a := List.any_eq_false.1 HP1.out x hx
          have b := List.any_eq_false.1 HP2.out x hx
          unfold outB at a
          unfold revB at b
          simp only [Bool.or_eq_true, Bool.not_eq_true', decide_eq_false_iff_not, decide_eq_true_eq, not_or, Classical.not_not] at a b
          omega
        have HR3 := Lib.hid hr
        clear hr HR2
        go_wp2_with fail
        refine (joined_is w.heap.size (.slice vo L.length vc) L (by omega) HIB.out _ HO3.out).mono ?_
        rintro x w4 ⟨⟨S, v4, hp, hs4, rfl, ho4⟩, hg4⟩
        have HJ := Lib.hid (jn_same (fun x hx => (HIB.out x hx).2.1) hp hs4)
        rw [HJ.out] at ho4
        have HO4 := Lib.hid (ho4.low HG3.out.size)
        have HG4 := Lib.hid (grown_anyS HG3.out hg4 (fun k e => (HO3.out.lt k e).1))
        obtain ⟨ro, rc, rfl, _⟩ := ho4.rows
        clear ho4 hg4 hp hs4 HJ HO3
        by_cases c3 : 1000 < (jnL (srtS L)).length
        · have hr := HR3.out
          rw [if_pos c3] at hr
          simp only [Prod.mk.injEq] at hr
          obtain ⟨rfl, rfl, rfl⟩ := hr
          have c3i : (1000 : Int) < ((jnL (srtS L)).length : Int) := by omega
          clear HR3
          go_wp2_with fail
          go_ret3
          exact ⟨⟨_, rfl, SpOwn.nil _ _⟩, HG4.out⟩
        · have hr := HR3.out
          rw [if_neg c3] at hr
          simp only [Prod.mk.injEq] at hr
          obtain ⟨rfl, rfl, rfl⟩ := hr
          have c3i : ¬ (1000 : Int) < ((jnL (srtS L)).length : Int) := by omega
          clear HR3
          go_wp2_with fail
          go_ret3
          exact ⟨⟨_, rfl, HO4.out⟩, HG4.out⟩
  · have hr := HR.out
    rw [if_neg c0] at hr
    simp only [Prod.mk.injEq] at hr
    obtain ⟨rfl, rfl, rfl⟩ := hr
    have hne : (e0 != 0) = true := by simpa using c0
    clear c0 HR
    go_wp2_with fail
    go_ret3
    exact ⟨⟨_, rfl, SpOwn.nil _ _⟩, HG1.out⟩
end Go.Proofs.YtbacoopopokkfaaDoor
