/- The contracts of Has and Size, of both sides. -/
import Derived.Test.YtbacoopopokkfaaDoorQSetJ
namespace Go.Proofs.YtbacoopopokkfaaDoor
open Go.RowKit Go.Shelf
set_option linter.unusedSimpArgs false
set_option linter.unusedVariables false

def hasR (A : List SpV) (n : Int) : Bool × Int := if chkS A = 0 then (covS A n, 0) else (false, chkS A)
def sizS (A : List SpV) : Int := A.foldl (fun s x => s + (x.to_ - x.fr + 1)) 0
def sizR (A : List SpV) : Int × Int := if chkS A = 0 then (sizS A, 0) else (0, chkS A)

set_option maxRecDepth 100000 in
theorem has1_is (x : SpV) (n : Int) (B : Nat) (w : World) (hb : w.cell? ⟨B, 0, none⟩ = some (.int .i64 n)) :
    Calls Tryd.prog 17 (#[.agg #[.int .i64 x.fr, .int .i64 x.to_]] ++ #[.pointer (some ⟨B, 0, none⟩)]) w fun e w' => e = .returned (.bool (inSp x n)) ∧ w.grownBy w' none := by
  obtain ⟨xf, xt⟩ := x
  have hb2 : (w.alloc (.cells #[.int .i64 xf, .int .i64 xt] 37)).cell? ⟨B, 0, none⟩ = some (.int .i64 n) := (World.grownBy_alloc _ _ none).cell hb (by simp)
  show Calls Tryd.prog 17 #[.agg #[.int .i64 xf, .int .i64 xt], .pointer (some ⟨B, 0, none⟩)] w _
  by_cases c1 : xf ≤ n
  · by_cases c2 : n ≤ xt
    · have HB : Hid (inSp ⟨xf, xt⟩ n = true) := by show _ = _; unfold inSp; simp [c1, c2]
      go_enter Tryd.func17, Tryd.ntmps17
      go_wp2_with fail
      go_ret
      exact ⟨ret_bool (by rw [HB.out]; try simp [c1, c2]), World.grownBy_alloc _ _ _⟩
    · have HB : Hid (inSp ⟨xf, xt⟩ n = false) := by show _ = _; unfold inSp; simp [c2]
      go_enter Tryd.func17, Tryd.ntmps17
      go_wp2_with fail
      go_ret
      exact ⟨ret_bool (by rw [HB.out]; try simp [c1, c2]), World.grownBy_alloc _ _ _⟩
  · have HB : Hid (inSp ⟨xf, xt⟩ n = false) := by show _ = _; unfold inSp; simp [c1]
    go_enter Tryd.func17, Tryd.ntmps17
    go_wp2_with fail
    go_ret
    exact ⟨ret_bool (by rw [HB.out]; try simp [c1]), World.grownBy_alloc _ _ _⟩
theorem idx_cov (L : List SpV) (n : Int) : (decide (0 ≤ idxR L (fun x => inSp x n))) = covS L n := by
  unfold idxR covS
  rw [Bool.eq_iff_iff, decide_eq_true_eq, List.any_eq_true]
  constructor
  · intro h
    split at h
    · rename_i h2
      exact ⟨_, List.getElem_mem h2, List.findIdx_getElem (w := h2)⟩
    · omega
  · rintro ⟨x, hx, hp⟩
    rw [if_pos (List.findIdx_lt_length_of_exists ⟨x, hx, hp⟩)]; omega

set_option maxRecDepth 100000 in
theorem containsSp_is (ao : Option Addr) (cap : Nat) (L : List SpV) (hl : (L.length : Int) ≤ 1000000) (g : Nat) (cb : Array Value) (p : SpV → Bool) (w : World) (hs : RowsAt spCs 2 w ao L) (eg : ∀ args w, (callFunc g args).run Tryd.prog w = .ok (.enter g args) w)
    (hf : PredSp Tryd.prog g cb p L w none) {b : Bool} (hb : decide (0 ≤ idxR L p) = b) :
    Calls Tryd.prog 16 #[.slice ao L.length cap, .func (.func g) #[] cb] w fun e w' => e = .returned (.bool b) ∧ w.grownBy w' none := by
  have HC := Lib.hid (idxSp_is ao cap L hl g cb p w none hs eg hf rfl)
  have HB := Lib.hid hb
  obtain ⟨i, hi⟩ : ∃ i, idxR L p = i := ⟨_, rfl⟩
  rw [hi] at HC HB
  clear hs hf hb hi
  go_enter Tryd.func16, Tryd.ntmps16
  go_wp2_with fail
  refine HC.out.mono ?_
  rintro x w1 ⟨rfl, hg1⟩
  go_wp2_with fail
  go_ret
  exact ⟨ret_bool HB.out, hg1⟩

section
variable (ao : Option Addr) (cap : Nat) (L : List SpV) (hl : (L.length : Int) ≤ 9223372036854775807) (w : World) (hs : RowsAt spCs 2 w ao L)
include hl hs
set_option maxRecDepth 100000 in
theorem Has_is (n : Int) {b : Bool} {e : Int} (hv : hasR L n = (b, e)) : Calls Tryd.prog 5 #[.slice ao L.length cap, .int .i64 n] w fun x w' => x = .returned (.tuple #[.bool b, .int .i64 e]) ∧ w.grownBy w' none := by
  have HS := Lib.hid hs
  obtain ⟨e1, he1⟩ : ∃ e1, chkS L = e1 := ⟨_, rfl⟩
  unfold hasR at hv
  have HE := Lib.hid he1
  have HB : Hid ((w.alloc (.cells #[.int .i64 n] 3)).cell? ⟨w.heap.size, 0, none⟩ = some (.int .i64 n)) := mblock_cell (mheap_new w _) 0 _ rfl
  have GA := Lib.hid (World.grownBy_alloc w (.cells #[.int .i64 n] 3) none)
  have hmf : ∀ (fn : Fn) (first cap : Array Value) (w : World), (Instr.makeFunc fn first cap).run Tryd.prog w = .ok (.func fn first cap) w := fun _ _ _ _ => rfl
  by_cases c1 : e1 = 0
  · subst c1
    rw [he1] at hv
    simp only [↓reduceIte, Prod.mk.injEq] at hv
    obtain ⟨hv, rfl⟩ := hv
    have hl2 := (chkS_ok he1).1
    have HV := Lib.hid hv
    clear hs he1 hv
    go_enter Tryd.func5, Tryd.ntmps5
    go_wp2_with fail
    refine (checkSp_is ao cap L hl _ (HS.out.grown GA.out) HE.out).mono ?_; rintro x w1 ⟨rfl, hg1⟩
    have HG1 := Lib.hid (grown_trans GA.out hg1)
    have HC := Lib.hid (hg1.cell HB.out (by simp))
    clear hg1
    go_wp2_with fail
    refine (containsSp_is ao cap L (by omega) 17 #[.pointer (some ⟨w.heap.size, 0, none⟩)] (fun x => inSp x n) _ (HS.out.grown HG1.out) (enters_of Tryd.func17 (by kernel_rfl) rfl) (fun x _ W hg => has1_is x n w.heap.size W (hg.cell HC.out (by simp))) ((idx_cov L n).trans HV.out)).mono ?_
    rintro x w2 ⟨rfl, hg2⟩
    have HG2 := Lib.hid (grown_trans HG1.out hg2)
    go_wp2_with fail
    go_ret2
    exact ⟨rfl, HG2.out⟩
  · rw [he1, if_neg c1] at hv
    simp only [Prod.mk.injEq] at hv
    obtain ⟨rfl, rfl⟩ := hv
    have hne : (e1 != 0) = true := by simpa using c1
    clear hs he1 c1
    go_enter Tryd.func5, Tryd.ntmps5
    go_wp2_with fail
    refine (checkSp_is ao cap L hl _ (HS.out.grown GA.out) HE.out).mono ?_; rintro x w1 ⟨rfl, hg1⟩
    have HG1 := Lib.hid (grown_trans GA.out hg1)
    go_wp2_with fail
    go_ret2
    exact ⟨rfl, HG1.out⟩
end
theorem siz_snoc (L : List SpV) (k : Nat) (hk : k < L.length) : sizS (L.take (k + 1)) = sizS (L.take k) + (L[k].to_ - L[k].fr + 1) := by
  rw [List.take_succ_eq_append_getElem hk]; unfold sizS; rw [List.foldl_append]; rfl
theorem siz_bd {L : List SpV} (hb : InB L) : ∀ k, k ≤ L.length → 0 ≤ sizS (L.take k) ∧ sizS (L.take k) ≤ k * 1000000000001
  | 0, _ => by simp [sizS]
  | k + 1, h => by
    have ih := siz_bd hb k (by omega)
    have hx := hb _ (List.getElem_mem (show k < L.length by omega))
    rw [siz_snoc L k (by omega)]
    omega

set_option maxRecDepth 100000 in
set_option maxHeartbeats 1600000 in
theorem Size_is (ao : Option Addr) (cap : Nat) (L : List SpV) (hl : (L.length : Int) ≤ 9223372036854775807) (w : World) (hs : RowsAt spCs 2 w ao L) {n e : Int} (hv : sizR L = (n, e)) : Calls Tryd.prog 10 #[.slice ao L.length cap] w fun x w' => x = .returned (.tuple #[.int .i64 n, .int .i64 e]) ∧ w.grownBy w' none := by
  have HS := Lib.hid hs
  obtain ⟨e1, he1⟩ : ∃ e1, chkS L = e1 := ⟨_, rfl⟩
  unfold sizR at hv
  have HE := Lib.hid he1
  by_cases c1 : e1 = 0
  · subst c1
    rw [he1] at hv
    simp only [↓reduceIte, Prod.mk.injEq] at hv
    obtain ⟨hv, rfl⟩ := hv
    have HV := Lib.hid hv
    have hl2 := (chkS_ok he1).1
    have HIB := Lib.hid (chkS_ok he1).2.1
    clear hs he1 hv
    go_enter Tryd.func10, Tryd.ntmps10
    go_wp2_with fail
    refine (checkSp_is ao cap L hl _ HS.out HE.out).mono ?_; rintro x w1 ⟨rfl, hg1⟩
    have HG1 := Lib.hid hg1
    clear hg1
    go_wp2_with fail
    go_loopw [5, 15] (fun sv iv wr => (∃ k : Nat, k ≤ L.length ∧ iv = .int .i64 k ∧ sv = .int .i64 (sizS (L.take k))) ∧ Hid (w.grownBy wr none)) (fun _ iv _ => L.length - (intOf iv).toNat)
    case atStart => exact ⟨⟨0, Nat.zero_le _, rfl, rfl⟩, HG1.out⟩
    case round =>
      obtain ⟨⟨k, hk, rfl, rfl⟩, hg⟩ := hrel
      by_cases hlt : k < L.length
      · obtain ⟨b1, o1, rfl, q1⟩ := sp_at (HS.out.grown hg.out) (by omega)
        obtain ⟨x0, x1⟩ := q1 k hlt
        have hx := HIB.out _ (List.getElem_mem hlt)
        have hsn := siz_snoc L k hlt
        have hbd := siz_bd HIB.out k hk
        generalize L[k] = x at *
        generalize sizS (L.take k) = s at *
        obtain ⟨xf, xt⟩ := x
        simp only at x0 x1 hx hsn
        have HSN := Lib.hid hsn
        have HG := Lib.hid (grown_trans hg.out (World.grownBy_alloc wr (.cells #[.int .i64 xf, .int .i64 xt] 37) none))
        have r1 : IntKind.i64.wrap (xt - xf) = xt - xf := IntWalk.i64_in _ (by omega)
        have r2 : IntKind.i64.wrap (xt - xf + 1) = xt - xf + 1 := IntWalk.i64_in _ (by omega)
        have r3 : IntKind.i64.wrap (s + (xt - xf + 1)) = s + (xt - xf + 1) := IntWalk.i64_in _ (by omega)
        clear q1 hsn hg
        go_wp2_with fail
        go_roundw
        case rel => exact ⟨⟨k + 1, by omega, by go_num, by rw [HSN.out]⟩, HG.out⟩
        case measure => simp [intOf]; omega
      · have HD : Hid (sizS (L.take k) = n) := by
          show _ = _
          rw [List.take_of_length_le (by omega)]; exact HV.out
        generalize sizS (L.take k) = s at *
        have hd := HD.out
        subst hd
        clear HD HV
        go_wp2_with fail
        go_ret2
        exact ⟨rfl, hg.out⟩
  · rw [he1, if_neg c1] at hv
    simp only [Prod.mk.injEq] at hv
    obtain ⟨rfl, rfl⟩ := hv
    have hne : (e1 != 0) = true := by simpa using c1
    clear hs he1 c1
    go_enter Tryd.func10, Tryd.ntmps10
    go_wp2_with fail
    refine (checkSp_is ao cap L hl _ HS.out HE.out).mono ?_; rintro x w1 ⟨rfl, hg1⟩
    go_wp2_with fail
    go_ret2
    exact ⟨rfl, hg1⟩

end Go.Proofs.YtbacoopopokkfaaDoor
