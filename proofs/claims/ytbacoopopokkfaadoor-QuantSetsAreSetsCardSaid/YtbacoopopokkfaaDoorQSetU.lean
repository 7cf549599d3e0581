/- The contracts of Union, Common and Without, of both sides. -/
import Derived.Test.YtbacoopopokkfaaDoorQSetM
import Derived.Test.YtbacoopopokkfaaDoorQSetN
import Derived.Test.YtbacoopopokkfaaDoorQCat
namespace Go.Proofs.YtbacoopopokkfaaDoor
open Go.RowKit Go.Shelf
set_option linter.unusedSimpArgs false
set_option linter.unusedVariables false

/-- What two sets are made into, if they are sets. -/
def bothR (A B R : List SpV) : List SpV × Int := if chkS A = 0 then (if chkS B = 0 then (if 1000 < R.length then ([], 3) else (R, 0)) else ([], chkS B)) else ([], chkS A)

set_option maxRecDepth 100000 in
set_option maxHeartbeats 1600000 in
theorem both_is (ao bo : Option Addr) (ac bc : Nat) (A B R : List SpV) (hla : (A.length : Int) ≤ 9223372036854775807) (hlb : (B.length : Int) ≤ 9223372036854775807) (w : World) (ha : RowsAt spCs 2 w ao A) (hb : RowsAt spCs 2 w bo B)
    (g : Nat) (eg : ∀ args w, (callFunc g args).run Tryd.prog w = .ok (.enter g args) w) (hR5 : chkS A = 0 → chkS B = 0 → R.length ≤ 5000)
    (hf : chkS A = 0 → chkS B = 0 → ∀ W, w.grownBy W none → Calls Tryd.prog g (#[.slice ao A.length ac, .slice bo B.length bc] ++ #[]) W fun x W' => (∃ v, x = .returned v ∧ SpOwn W.heap.size W' v R) ∧ W.grownBy W' none) {l : List SpV} {e : Int} (hv : bothR A B R = (l, e)) :
    Calls Tryd.prog 20 #[.slice ao A.length ac, .slice bo B.length bc, .func (.func g) #[] #[]] w fun x w' => (∃ v, x = .returned (.tuple #[v, .int .i64 e]) ∧ SpOwn w.heap.size w' v l) ∧ w.grownBy w' none := by
  obtain ⟨e1, he1⟩ : ∃ e1, chkS A = e1 := ⟨_, rfl⟩
  obtain ⟨e2, he2⟩ : ∃ e2, chkS B = e2 := ⟨_, rfl⟩
  unfold bothR at hv
  rw [he1, he2] at hv hf hR5
  have HA := Lib.hid ha; have HB := Lib.hid hb; have HF := Lib.hid hf; have HE1 := Lib.hid he1; have HE2 := Lib.hid he2; have HV := Lib.hid hv; have HR5 := Lib.hid hR5
  clear ha hb hf he1 he2 hv hR5
  go_enter Tryd.func20, Tryd.ntmps20
  go_wp2_with fail
  refine (checkSp_is ao ac A hla _ HA.out HE1.out).mono ?_; rintro x w1 ⟨rfl, hg1⟩
  have HG1 := Lib.hid hg1
  clear hg1
  by_cases c1 : e1 = 0
  · subst c1
    go_wp2_with fail
    refine (checkSp_is bo bc B hlb _ (HB.out.grown HG1.out) HE2.out).mono ?_; rintro x w2 ⟨rfl, hg2⟩
    have HG2 := Lib.hid (grown_trans HG1.out hg2)
    clear hg2
    by_cases c2 : e2 = 0
    · subst c2
      have hv := HV.out
      simp only [↓reduceIte] at hv
      have hr5 := HR5.out (by trivial) (by trivial)
      have HC := Lib.hid (HF.out (by trivial) (by trivial) w2 HG2.out)
      clear HV HF HR5
      go_wp2_with fail
      go_at_fn g
      refine HC.out.mono ?_
      rintro x w3 ⟨⟨v, rfl, ho⟩, hg3⟩
      have HG3 := Lib.hid (grown_trans HG2.out hg3)
      have HO := Lib.hid (ho.low HG2.out.size)
      obtain ⟨vo, vc, rfl, _⟩ := ho.rows
      clear ho hg3
      by_cases c3 : 1000 < R.length
      · rw [if_pos c3] at hv
        simp only [Prod.mk.injEq] at hv
        obtain ⟨rfl, rfl⟩ := hv
        have c3i : (1000 : Int) < (R.length : Int) := by omega
        go_wp2_with fail
        go_ret2
        exact ⟨⟨_, rfl, SpOwn.nil _ _⟩, HG3.out⟩
      · rw [if_neg c3] at hv
        simp only [Prod.mk.injEq] at hv
        obtain ⟨rfl, rfl⟩ := hv
        have c3i : ¬ (1000 : Int) < (R.length : Int) := by omega
        go_wp2_with fail
        go_ret2
        exact ⟨⟨_, rfl, HO.out⟩, HG3.out⟩
    · have hv := HV.out
      simp only [↓reduceIte, if_neg c2] at hv
      simp only [Prod.mk.injEq] at hv
      obtain ⟨rfl, rfl⟩ := hv
      have hne : (e2 != 0) = true := by simpa using c2
      clear c2
      go_wp2_with fail
      go_ret2
      exact ⟨⟨_, rfl, SpOwn.nil _ _⟩, HG2.out⟩
  · have hv := HV.out
    rw [if_neg c1] at hv
    simp only [Prod.mk.injEq] at hv
    obtain ⟨rfl, rfl⟩ := hv
    have hne : (e1 != 0) = true := by simpa using c1
    clear c1
    go_wp2_with fail
    go_ret2
    exact ⟨⟨_, rfl, SpOwn.nil _ _⟩, HG1.out⟩

set_option maxRecDepth 100000 in
theorem uni1_is (ao bo : Option Addr) (ac bc : Nat) (A B : List SpV) (hla : A.length ≤ 1000) (hlb : B.length ≤ 1000) (ia : InB A) (ib : InB B) (ca : Canon A) (cb : Canon B) (w : World) (ha : RowsAt spCs 2 w ao A) (hb : RowsAt spCs 2 w bo B) :
    Calls Tryd.prog 21 (#[.slice ao A.length ac, .slice bo B.length bc] ++ #[]) w fun x w' => (∃ v, x = .returned v ∧ SpOwn w.heap.size w' v (cmbL A B 1)) ∧ w.grownBy w' none := by
  have HA := Lib.hid ha; have HB := Lib.hid hb; have HIA := Lib.hid ia; have HIB := Lib.hid ib; have HCA := Lib.hid ca; have HCB := Lib.hid cb
  clear ha hb ia ib ca cb
  have GA := Lib.hid (World.grownBy_alloc w (.cells #[.slice ao A.length ac, .slice bo B.length bc] 22) none)
  show Calls Tryd.prog 21 #[.slice ao A.length ac, .slice bo B.length bc] w _
  go_enter Tryd.func21, Tryd.ntmps21
  go_wp2_with fail
  refine (concat_sp w.heap.size 2 ao bo ac bc A B (by omega) (by omega) _ (mblock_cell (mheap_new w _) 0 _ rfl) (mblock_cell (mheap_new w _) 1 _ rfl) (by simp) (HA.out.grown GA.out) (HB.out.grown GA.out)).mono ?_
  rintro x w1 ⟨⟨v, rfl, ho⟩, hg1⟩
  have HG1 := Lib.hid (grown_trans GA.out hg1)
  have HO : Hid (SpOwn w.heap.size w1 v (A ++ B)) := SpOwn.low (b := (w.alloc (.cells #[.slice ao A.length ac, .slice bo B.length bc] 22)).heap.size) ho GA.out.size
  have HIN : Hid (InB (A ++ B)) := fun x hx => (List.mem_append.1 hx).elim (HIA.out x) (HIB.out x)
  clear ho hg1
  go_wp2_with fail
  refine (joined_is w.heap.size v (A ++ B) (by simp; omega) HIN.out _ HO.out).mono ?_
  rintro x w2 ⟨⟨S, v2, hp, hs, rfl, ho2⟩, hg2⟩
  have HO2 : Hid (SpOwn w.heap.size w2 v2 (cmbL A B 1)) := by
    show SpOwn _ _ _ _
    rw [← uni_is HCA.out HCB.out hp hs]; exact ho2.low HG1.out.size
  have HG2 := Lib.hid (grown_anyS HG1.out hg2 (fun k e => (HO.out.lt k e).1))
  clear hp hs ho2 hg2
  go_wp2_with fail
  go_ret
  exact ⟨⟨v2, rfl, HO2.out⟩, HG2.out⟩

set_option maxRecDepth 100000 in
theorem less1_is (ao bo : Option Addr) (ac bc : Nat) (A B : List SpV) (hla : A.length ≤ 1000) (hlb : B.length ≤ 1000) (ia : InB A) (ib : InB B) (ca : Canon A) (cb : Canon B) (w : World) (ha : RowsAt spCs 2 w ao A) (hb : RowsAt spCs 2 w bo B) :
    Calls Tryd.prog 25 (#[.slice ao A.length ac, .slice bo B.length bc] ++ #[]) w fun x w' => (∃ v, x = .returned v ∧ SpOwn w.heap.size w' v (cmbL A B 3)) ∧ w.grownBy w' none := by
  have HA := Lib.hid ha; have HB := Lib.hid hb; have HIB := Lib.hid ib
  have HEQ := Lib.hid (less_is_ ca cb ia ib)
  have HGL := Lib.hid (gap_ok (L := B) (f := 0) (Int.le_refl _) cb ib (fun x hx => (ib x hx).1)).2.2.2
  clear ha hb ia ib ca cb
  show Calls Tryd.prog 25 #[.slice ao A.length ac, .slice bo B.length bc] w _
  go_enter Tryd.func25, Tryd.ntmps25
  go_wp2_with fail
  refine (gaps_is bo bc B hlb _ HB.out HIB.out).mono ?_
  rintro x w1 ⟨⟨v, rfl, ho⟩, hg1⟩
  have HG1 := Lib.hid hg1
  obtain ⟨vo, vc, rfl, hr⟩ := ho.rows
  have HR := Lib.hid hr
  clear ho hg1 hr
  go_wp2_with fail
  refine (common_is ao vo ac vc A (gapL 0 B) (by omega) (by have := HGL.out; omega) _ (HA.out.grown HG1.out) HR.out).mono ?_
  rintro x w2 ⟨⟨v2, rfl, ho2⟩, hg2⟩
  have HO2 : Hid (SpOwn w.heap.size w2 v2 (cmbL A B 3)) := by
    show SpOwn _ _ _ _
    rw [← HEQ.out]; exact ho2.low HG1.out.size
  have HG2 := Lib.hid (grown_trans HG1.out hg2)
  clear ho2 hg2
  go_wp2_with fail
  go_ret
  exact ⟨⟨v2, rfl, HO2.out⟩, HG2.out⟩

section
variable (ao bo : Option Addr) (ac bc : Nat) (A B : List SpV) (hla : (A.length : Int) ≤ 9223372036854775807) (hlb : (B.length : Int) ≤ 9223372036854775807) (w : World) (ha : RowsAt spCs 2 w ao A) (hb : RowsAt spCs 2 w bo B)
theorem cmb_5000 (how : Nat) (h1 : chkS A = 0) (h2 : chkS B = 0) : (cmbL A B how).length ≤ 5000 := by
  obtain ⟨a1, _, a3⟩ := chkS_ok h1
  obtain ⟨b1, _, b3⟩ := chkS_ok h2
  have := (cmb_ok a3 b3 how).2.2
  omega
include hla hlb ha hb
theorem Union_is {l : List SpV} {e : Int} (hv : bothR A B (cmbL A B 1) = (l, e)) : Calls Tryd.prog 7 #[.slice ao A.length ac, .slice bo B.length bc] w fun x w' => (∃ v, x = .returned (.tuple #[v, .int .i64 e]) ∧ SpOwn w.heap.size w' v l) ∧ w.grownBy w' none := by
  have HC := Lib.hid (both_is ao bo ac bc A B (cmbL A B 1) hla hlb w ha hb 21 (enters_of Tryd.func21 (by kernel_rfl) rfl) (cmb_5000 A B 1) (fun h1 h2 W hg => by
    obtain ⟨a1, a2, a3⟩ := chkS_ok h1
    obtain ⟨b1, b2, b3⟩ := chkS_ok h2
    exact uni1_is ao bo ac bc A B a1 b1 a2 b2 a3 b3 W (ha.grown hg) (hb.grown hg)) hv)
  go_enter Tryd.func7, Tryd.ntmps7
  go_wp2_with fail
  refine HC.out.mono ?_
  rintro x w1 ⟨⟨v, rfl, ho⟩, hg1⟩
  go_wp2_with fail
  go_ret2
  exact ⟨⟨v, rfl, ho⟩, hg1⟩
theorem Common_is {l : List SpV} {e : Int} (hv : bothR A B (cmbL A B 2) = (l, e)) : Calls Tryd.prog 8 #[.slice ao A.length ac, .slice bo B.length bc] w fun x w' => (∃ v, x = .returned (.tuple #[v, .int .i64 e]) ∧ SpOwn w.heap.size w' v l) ∧ w.grownBy w' none := by
  have HC := Lib.hid (both_is ao bo ac bc A B (cmbL A B 2) hla hlb w ha hb 24 (enters_of Tryd.func24 (by kernel_rfl) rfl) (cmb_5000 A B 2) (fun h1 h2 W hg => by
    obtain ⟨a1, a2, a3⟩ := chkS_ok h1
    obtain ⟨b1, b2, b3⟩ := chkS_ok h2
    rw [← com_is a3 b3]
    exact common_is ao bo ac bc A B (by omega) (by omega) W (ha.grown hg) (hb.grown hg)) hv)
  go_enter Tryd.func8, Tryd.ntmps8
  go_wp2_with fail
  refine HC.out.mono ?_
  rintro x w1 ⟨⟨v, rfl, ho⟩, hg1⟩
  go_wp2_with fail
  go_ret2
  exact ⟨⟨v, rfl, ho⟩, hg1⟩
theorem Without_is {l : List SpV} {e : Int} (hv : bothR A B (cmbL A B 3) = (l, e)) : Calls Tryd.prog 9 #[.slice ao A.length ac, .slice bo B.length bc] w fun x w' => (∃ v, x = .returned (.tuple #[v, .int .i64 e]) ∧ SpOwn w.heap.size w' v l) ∧ w.grownBy w' none := by
  have HC := Lib.hid (both_is ao bo ac bc A B (cmbL A B 3) hla hlb w ha hb 25 (enters_of Tryd.func25 (by kernel_rfl) rfl) (cmb_5000 A B 3) (fun h1 h2 W hg => by
    obtain ⟨a1, a2, a3⟩ := chkS_ok h1
    obtain ⟨b1, b2, b3⟩ := chkS_ok h2
    exact less1_is ao bo ac bc A B a1 b1 a2 b2 a3 b3 W (ha.grown hg) (hb.grown hg)) hv)
  go_enter Tryd.func9, Tryd.ntmps9
  go_wp2_with fail
  refine HC.out.mono ?_
  rintro x w1 ⟨⟨v, rfl, ho⟩, hg1⟩
  go_wp2_with fail
  go_ret2
  exact ⟨⟨v, rfl, ho⟩, hg1⟩

end
end Go.Proofs.YtbacoopopokkfaaDoor
