/- The contract of slices.SortFunc over a row of spans, by where they begin. -/
import Derived.Test.YtbacoopopokkfaaDoorQSpB
import Derived.Test.YtbacoopopokkfaaDoorBaseA
import Derived.Test.YtbacoopopokkfaaDoorSrt
import Derived.Test.YtbacoopopokkfaaDoorShelf
import Derived.Shelf.SlSortCmp.NoneTotal
namespace Go.Proofs.YtbacoopopokkfaaDoor
open Go.RowKit Go.Shelf Go.Sort
set_option linter.unusedSimpArgs false
set_option linter.unusedVariables false

theorem cmpSp_is (x y : SpV) (w : World) :
    Calls Tryd.prog 46 (#[.agg (spCs x).toArray, .agg (spCs y).toArray] ++ #[]) w fun e w' => e = .returned (.int .i64 (Lib.compareInt x.fr y.fr)) ∧ ∃ q os', w' = Go.Sort.grow (w.drewN q) os' := by
  obtain ⟨xf, xt⟩ := x
  obtain ⟨yf, yt⟩ := y
  show Calls Tryd.prog 46 #[.agg #[.int .i64 xf, .int .i64 xt], .agg #[.int .i64 yf, .int .i64 yt]] w _
  have HFIN : Hid (∃ q os', (w.alloc (.cells #[.int .i64 xf, .int .i64 xt] 37)).alloc (.cells #[.int .i64 yf, .int .i64 yt] 37) = Go.Sort.grow (w.drewN q) os') :=
    ⟨0, #[.cells #[.int .i64 xf, .int .i64 xt] 37] ++ #[.cells #[.int .i64 yf, .int .i64 yt] 37], by
      rw [Go.Sort.alloc_eq_grow, Go.Sort.alloc_eq_grow, Go.Sort.grow_grow]; rfl⟩
  have hcon := fun W => Tryd.cmp_Compare_int xf yf W
  generalize Lib.compareInt xf yf = r at hcon ⊢
  have HC := Lib.hid hcon
  clear hcon
  go_enter Tryd.func46, Tryd.ntmps46
  go_wp2_with fail
  refine (HC.out _).mono ?_; rintro e w1 ⟨rfl, rfl⟩
  go_wp2_with fail
  go_ret
  exact ⟨rfl, HFIN.out⟩
theorem cmpI_lt (a b : Int) : Lib.compareInt a b < 0 ↔ a < b := by
  unfold Lib.compareInt
  repeat' split
  all_goals omega
theorem ltSp (l : List SpV) (x y : Nat) : ltOf (fun i j : Nat => Lib.compareInt (l.getD i ⟨0, 0⟩).fr (l.getD j ⟨0, 0⟩).fr) x y = decide ((l.getD x ⟨0, 0⟩).fr < (l.getD y ⟨0, 0⟩).fr) := by
  unfold ltOf
  rw [decide_eq_decide, cmpI_lt]
theorem swoSp (l : List SpV) : SWO (ltOf fun i j : Nat => Lib.compareInt (l.getD i ⟨0, 0⟩).fr (l.getD j ⟨0, 0⟩).fr) where
  irrefl x := by rw [ltSp]; simp
  trans x y z h1 h2 := by rw [ltSp] at *; simp only [decide_eq_true_eq] at *; omega
  ntrans x y z h1 h2 := by rw [ltSp] at *; simp only [decide_eq_false_iff_not] at *; omega
theorem range_map_getD (l : List SpV) : (List.range l.length).map (fun i => l.getD i ⟨0, 0⟩) = l := by
  apply List.ext_getElem (by simp)
  intro i h1 h2
  simp only [List.getElem_map, List.getElem_range]
  rw [List.getD_eq_getElem?_getD, List.getElem?_eq_getElem h2]; rfl

set_option maxRecDepth 100000 in
set_option maxHeartbeats 1600000 in
theorem sortSp_is (base : Nat) (v : Value) (L : List SpV) (hl : L.length ≤ 1000000) (w : World) (ho : w.ownsRow base 37 2 v L.length (L.flatMap spCs)) :
    Calls Tryd.prog 45 #[v, .func (.func 46) #[] #[]] w fun e w' => e = .returned (.tuple #[]) ∧ (∃ S : List SpV, S.Perm L ∧ (S.Pairwise fun x y => x.fr ≤ y.fr) ∧ S.length = L.length ∧ w'.ownsRow base 37 2 v L.length (S.flatMap spCs)) ∧ w.grownBy w' v.ownBlock := by
  rcases Nat.eq_zero_or_pos L.length with h0 | h0
  · have hv : ∃ ao cap, v = .slice ao 0 cap := by
      rcases ho.2 with ⟨e, _⟩ | ⟨g, cap, cur, e, _⟩
      · exact ⟨_, _, e⟩
      · rw [h0] at e; exact ⟨_, _, e⟩
    obtain ⟨ao, cap, rfl⟩ := hv
    have e0 : L = [] := List.eq_nil_of_length_eq_zero h0
    subst e0
    have q := AnyF.slices_SortFunc_none Tryd.sortSp ao cap (.func (.func 46) #[] #[]) w
    change Calls Tryd.prog 45 _ _ _ at q
    refine q.mono ?_
    rintro e w' ⟨rfl, rfl⟩
    exact ⟨rfl, ⟨[], List.Perm.refl _, List.Pairwise.nil, rfl, ho⟩, World.grownBy.refl _ _⟩
  · obtain ⟨g, cap, rfl⟩ : ∃ g cap, v = .slice (some ⟨g, 0, none⟩) L.length cap := by
      rcases ho.2 with ⟨_, h⟩ | ⟨g, cap, cur, hv, _⟩
      · omega
      · exact ⟨g, cap, hv⟩
    obtain ⟨n, hn⟩ : ∃ n, L.length = n := ⟨_, rfl⟩
    have hk : ∀ x : Nat, (spCs (L.getD x ⟨0, 0⟩)).length = 2 := fun _ => rfl
    have e0 : L.flatMap spCs = (List.range n).flatMap (fun i => spCs (L.getD i ⟨0, 0⟩)) := by
      conv => lhs; rw [← range_map_getD L]
      rw [List.flatMap_map, hn]
    have ho2 := ho
    rw [hn, e0] at ho2
    obtain ⟨hH, hg, hb, h1', h2', cur, hcur, hcs⟩ := own_holds hk ho2
    have hsz : (fA n fun k => k).size = n := fA_size _ _
    have q := AnyQ.slices_SortFunc Tryd.sortSp 2 (fun w => by kernel_rfl) (fun w => by kernel_rfl) (fun i => spCs (L.getD i ⟨0, 0⟩)) hk (fun x u hu => by
        simp only [spCs, List.mem_cons, List.not_mem_nil, or_false] at hu
        rcases hu with rfl | rfl <;> rfl) (fun i j : Nat => Lib.compareInt (L.getD i ⟨0, 0⟩).fr (L.getD j ⟨0, 0⟩).fr) (swoSp L) 46 #[] g 0 cap (fA n fun k => k) w
      (enters_of Tryd.func46 (by kernel_rfl) rfl) (fun _ _ _ _ x y => cmpSp_is (L.getD x ⟨0, 0⟩) (L.getD y ⟨0, 0⟩) _) hH hg (by rw [hsz]; omega)
    change Calls Tryd.prog 45 _ _ _ at q
    rw [hsz] at q
    rw [hn]
    refine q.mono ?_
    rintro e w' ⟨rfl, d', m, os, hp, hs, rfl⟩
    have hd : d'.size = n := by rw [hp.1, hsz]
    obtain ⟨f, hf⟩ : ∃ f : Nat → Nat, ∀ k, f k = d'[k]! := ⟨fun k => d'[k]!, fun _ => rfl⟩
    have hdf : d' = fA n f := fA_ext hd (fun k _ => (hf k).symm)
    have hperm : ((List.range n).map f).Perm (List.range n) := by
      have q := hp.2.2
      rw [hdf] at q
      have a1 : ((fA n f).extract 0 n).toList = (List.range n).map f := by simp [fA, List.take_of_length_le]
      have a2 : ((fA n fun k => k).extract 0 n).toList = List.range n := by simp [fA]
      rw [a1, a2] at q
      exact q
    have hlt : ∀ k, k < n → f k < n := fun k hk => List.mem_range.1 (hperm.mem_iff.1 (List.mem_map.2 ⟨k, List.mem_range.2 hk, rfl⟩))
    have hS : SorK (fun i => spCs (L.getD i ⟨0, 0⟩)) 2 n g 0 w f (sortWorldK (fun i => spCs (L.getD i ⟨0, 0⟩)) 2 w g 0 m d' os) := ⟨⟨m, os, by rw [hdf]⟩, hlt⟩
    have ho3 := hS.owns hk hb hcur h1' h2' hcs
    refine ⟨rfl, ⟨((List.range n).map f).map fun i => L.getD i ⟨0, 0⟩, ?_, ?_, by simp, ?_⟩, hS.keeps⟩
    · have := hperm.map (fun i => L.getD i ⟨0, 0⟩)
      rw [← hn, range_map_getD L] at this
      rw [← hn]; exact this
    · rw [List.map_map, List.pairwise_map]
      refine List.pairwise_iff_getElem.2 fun i j hi hj hij => ?_
      simp only [List.length_range] at hi hj
      simp only [List.getElem_range, Function.comp]
      have q := hs i j (Nat.zero_le _) hij hj
      rw [ltSp, ← hf, ← hf] at q
      simp only [decide_eq_false_iff_not] at q
      omega
    · rw [List.flatMap_map]; exact ho3
end Go.Proofs.YtbacoopopokkfaaDoor
