/- The order of best windows by their sizes. -/
import Derived.Test.YtfeefijaahjheaaECrvB
import Derived.Test.YtfeefijaahjheaaBstStb
import Derived.Test.YtfeefijaahjheaaOOwn
namespace Go.Proofs.Ytfeefijaahjheaa
open Go.RowKit
set_option linter.unusedSimpArgs false
set_option linter.unusedVariables false

def cmpI (a b : Int) : Int := if a < b then -1 else if b < a then 1 else 0
theorem isNaNi_any (x : Int) (w : World) : Calls Try.prog 97 #[.int .i64 x] w fun e w' => e = .returned (.bool false) ∧ w = w' := by
  go_enter Try.func97, Try.ntmps97
  go_wp2
  go_ret
  exact ⟨ret_bool (by simp), rfl⟩
theorem compareI_any (a b : Int) (w : World) {z : Int} (hz : Hid (cmpI a b = z)) : Calls Try.prog 86 #[.int .i64 a, .int .i64 b] w fun e w' => e = .returned (.int .i64 z) ∧ w = w' := by
  have hz2 := hz.out
  unfold cmpI at hz2
  by_cases h1 : a < b
  · have HV : Hid (z = -1) := by show _ = _; rw [← hz2, if_pos h1]
    clear hz2
    go_enter Try.func86, Try.ntmps86
    go_wp2_with (go_at_call 97; refine (isNaNi_any _ _).mono ?_; rintro e w1 ⟨rfl, rfl⟩)
    go_ret
    exact ⟨ret_int HV.out.symm, rfl⟩
  · by_cases h2 : b < a
    · have HV : Hid (z = 1) := by show _ = _; rw [← hz2, if_neg h1, if_pos h2]
      clear hz2
      go_enter Try.func86, Try.ntmps86
      go_wp2_with (go_at_call 97; refine (isNaNi_any _ _).mono ?_; rintro e w1 ⟨rfl, rfl⟩)
      go_ret
      exact ⟨ret_int HV.out.symm, rfl⟩
    · have HV : Hid (z = 0) := by show _ = _; rw [← hz2, if_neg h1, if_neg h2]
      clear hz2
      go_enter Try.func86, Try.ntmps86
      go_wp2_with (go_at_call 97; refine (isNaNi_any _ _).mono ?_; rintro e w1 ⟨rfl, rfl⟩)
      go_ret
      exact ⟨ret_int HV.out.symm, rfl⟩

theorem grw2 (w : World) (o1 o2 : Obj) (q : Nat) (os : Array Obj) : ∃ q' os', Go.Sort.grow (((w.alloc o1).alloc o2).drewN q) os = Go.Sort.grow (w.drewN q') os' :=
  ⟨q, #[o1] ++ #[o2] ++ os, by
    rw [Go.Sort.alloc_eq_grow, Go.Sort.alloc_eq_grow, Go.Sort.grow_grow]
    rw [show (Go.Sort.grow w (#[o1] ++ #[o2])).drewN q = Go.Sort.grow (w.drewN q) (#[o1] ++ #[o2]) from rfl, Go.Sort.grow_grow]⟩
set_option maxRecDepth 100000 in
set_option maxHeartbeats 3200000 in
theorem cmpB_is (x y : BestV) (g : Nat) (w : World) (hq : w.cell? ⟨g, 0, none⟩ = some (.func (.func 63) #[] #[])) {z : Int} (hz : Hid (cmpI x.sz y.sz = z)) :
    Calls Try.prog 85 #[.agg #[.int .i64 x.sz, .int .i64 x.b.sum, .int .i64 x.b.at_, .bool x.b.found], .agg #[.int .i64 y.sz, .int .i64 y.b.sum, .int .i64 y.b.at_, .bool y.b.found], .pointer (some ⟨g, 0, none⟩)] w fun e w' => e = .returned (.int .i64 z) ∧ ∃ q os, w' = Go.Sort.grow (w.drewN q) os := by
  obtain ⟨xs, xb, xa, xf⟩ := x
  obtain ⟨ys, yb, ya, yf⟩ := y
  simp only at hz ⊢
  have HFIN := Lib.hid (grw2 w (.cells #[.int .i64 xs, .int .i64 xb, .int .i64 xa, .bool xf] 24) (.cells #[.int .i64 ys, .int .i64 yb, .int .i64 ya, .bool yf] 24))
  go_enter Try.func85, Try.ntmps85
  go_wp2_with fail
  obtain ⟨W, hW⟩ : ∃ W, (w.alloc (.cells #[.int .i64 xs, .int .i64 xb, .int .i64 xa, .bool xf] 24)).alloc (.cells #[.int .i64 ys, .int .i64 yb, .int .i64 ya, .bool yf] 24) = W := ⟨_, rfl⟩
  have hgW : w.grownBy W none := by rw [← hW]; exact grown_trans (grown_al _ _) (grown_al _ _)
  have hb1 : W.heap[w.heap.size]? = some (.cells #[.int .i64 xs, .int .i64 xb, .int .i64 xa, .bool xf] 24 (0, 0)) := by
    rw [← hW, Below.heap_alloc _ _ _ (by simp)]; exact heap_alloc_new _ _
  have hb2 : W.heap[w.heap.size + 1]? = some (.cells #[.int .i64 ys, .int .i64 yb, .int .i64 ya, .bool yf] 24 (0, 0)) := by
    rw [← hW]; have q := heap_alloc_new (w.alloc (.cells #[.int .i64 xs, .int .i64 xb, .int .i64 xa, .bool xf] 24)) (.cells #[.int .i64 ys, .int .i64 yb, .int .i64 ya, .bool yf] 24); simpa using q
  rw [hW] at HFIN ⊢
  have k0 : ∀ dq dos, (Go.Sort.grow (W.drewN dq) dos).cell? ⟨g, 0, none⟩ = some (.func (.func 63) #[] #[]) := fun dq dos => grown_cell (grown_gd W dq dos) (grown_cell hgW hq)
  have x0 : ∀ dq dos, (Go.Sort.grow (W.drewN dq) dos).cell? ⟨w.heap.size, 0, none⟩ = some (.int .i64 xs) := fun dq dos => grown_cell (grown_gd W dq dos) (mblock_cell hb1 0 _ rfl)
  have x1 : ∀ dq dos, (Go.Sort.grow (W.drewN dq) dos).cell? ⟨w.heap.size, 1, none⟩ = some (.int .i64 xb) := fun dq dos => grown_cell (grown_gd W dq dos) (mblock_cell hb1 1 _ rfl)
  have x2 : ∀ dq dos, (Go.Sort.grow (W.drewN dq) dos).cell? ⟨w.heap.size, 2, none⟩ = some (.int .i64 xa) := fun dq dos => grown_cell (grown_gd W dq dos) (mblock_cell hb1 2 _ rfl)
  have x3 : ∀ dq dos, (Go.Sort.grow (W.drewN dq) dos).cell? ⟨w.heap.size, 3, none⟩ = some (.bool xf) := fun dq dos => grown_cell (grown_gd W dq dos) (mblock_cell hb1 3 _ rfl)
  have y0 : ∀ dq dos, (Go.Sort.grow (W.drewN dq) dos).cell? ⟨w.heap.size + 1, 0, none⟩ = some (.int .i64 ys) := fun dq dos => grown_cell (grown_gd W dq dos) (mblock_cell hb2 0 _ rfl)
  have y1 : ∀ dq dos, (Go.Sort.grow (W.drewN dq) dos).cell? ⟨w.heap.size + 1, 1, none⟩ = some (.int .i64 yb) := fun dq dos => grown_cell (grown_gd W dq dos) (mblock_cell hb2 1 _ rfl)
  have y2 : ∀ dq dos, (Go.Sort.grow (W.drewN dq) dos).cell? ⟨w.heap.size + 1, 2, none⟩ = some (.int .i64 ya) := fun dq dos => grown_cell (grown_gd W dq dos) (mblock_cell hb2 2 _ rfl)
  have y3 : ∀ dq dos, (Go.Sort.grow (W.drewN dq) dos).cell? ⟨w.heap.size + 1, 3, none⟩ = some (.bool yf) := fun dq dos => grown_cell (grown_gd W dq dos) (mblock_cell hb2 3 _ rfl)
  have HX : Hid (∀ q os, Calls Try.prog 63 (#[.agg #[.int .i64 xs, .int .i64 xb, .int .i64 xa, .bool xf]] ++ #[]) (Go.Sort.grow (W.drewN q) os) fun e w' => e = .returned (.int .i64 xs) ∧ ∃ q' os', w' = Go.Sort.grow ((Go.Sort.grow (W.drewN q) os).drewN q') os') := fun q os => sizeOf_is ⟨xs, xb, xa, xf⟩ _
  have HY : Hid (∀ q os, Calls Try.prog 63 (#[.agg #[.int .i64 ys, .int .i64 yb, .int .i64 ya, .bool yf]] ++ #[]) (Go.Sort.grow (W.drewN q) os) fun e w' => e = .returned (.int .i64 ys) ∧ ∃ q' os', w' = Go.Sort.grow ((Go.Sort.grow (W.drewN q) os).drewN q') os') := fun q os => sizeOf_is ⟨ys, yb, ya, yf⟩ _
  have HC : Hid (∀ q os, Calls Try.prog 86 (#[.int .i64 xs, .int .i64 ys]) (Go.Sort.grow (W.drewN q) os) fun e w' => e = .returned (.int .i64 z) ∧ ∃ q' os', w' = Go.Sort.grow ((Go.Sort.grow (W.drewN q) os).drewN q') os') := fun q os => (compareI_any xs ys _ hz).mono fun e w' ⟨h1, h2⟩ => ⟨h1, 0, #[], by rw [← h2, Go.Sort.grow_empty]; rfl⟩
  have mixed : Try.prog.follows .mixedOrders = true := by kernel_rfl
  have eG : ∀ args w, (callFunc 63 args).run Try.prog w = .ok (.enter 63 args) w := enters_of Try.func63 (by kernel_rfl) rfl
  clear hb1 hb2 hgW hW hq hz
  go_quiet_grown (first | (go_at_fn 63; refine Calls.grown_of (HX.out _ _)) | (go_at_fn 63; refine Calls.grown_of (HY.out _ _)) | (go_at_call 86; refine Calls.grown_of (HC.out _ _)) | (refine Calls.grown_of (HC.out _ _)))
  go_wp2_with fail
  go_ret
  exact ⟨rfl, HFIN.out _ _⟩

theorem nthB_mem {l : List BestV} {i : Nat} (h : i < l.length) : nthB l i ∈ l := by rw [nthB_at h]; exact List.getElem_mem h
def bstEn (l : List BestV) : Nat → List Value := bst_E (fun i => (nthB l i).sz) (fun i => (nthB l i).b.sum) (fun i => (nthB l i).b.at_) (fun i => (nthB l i).b.found)
theorem bstEn_is (l : List BestV) (i : Nat) : bstEn l i = bestCs (nthB l i) := rfl
theorem flat_bst (l : List BestV) (is : List Nat) : is.flatMap (bstEn l) = (is.map (nthB l)).flatMap bestCs := by
  rw [List.flatMap_map]
  rfl
theorem cmpI_neg (a b : Int) : cmpI a b < 0 ↔ a < b := by
  unfold cmpI
  repeat' split
  all_goals omega

set_option maxRecDepth 100000 in
set_option maxHeartbeats 1600000 in
theorem sortB_ok {l : List BestV} (h1 : 1 < l.length) (hn : l.length ≤ 20000) (gk : Nat) (W : World) (base : Nat) (v : Value) (hq : W.cell? ⟨gk, 0, none⟩ = some (.func (.func 63) #[] #[])) (hgk : ∀ b, v.ownBlock = some b → b ≠ gk) (ho : W.ownsRow base 24 4 v l.length (l.flatMap bestCs)) :
    Calls Try.prog 84 #[v, .func (.func 85) #[] #[.pointer (some ⟨gk, 0, none⟩)]] W fun e w' => e = .returned (.tuple #[]) ∧ w'.ownsRow base 24 4 v l.length ((srtB l).flatMap bestCs) ∧ W.grownBy w' v.ownBlock := by
  obtain ⟨n, hnn⟩ : ∃ n, l.length = n := ⟨_, rfl⟩
  obtain ⟨g, cap, hv⟩ : ∃ g cap, v = .slice (some ⟨g, 0, none⟩) l.length cap := by
    rcases ho.2 with ⟨_, h0⟩ | ⟨g, cap, cur, hv, _⟩
    · omega
    · exact ⟨g, cap, hv⟩
  subst hv
  have hne : g ≠ gk := hgk g rfl
  have ho2 := ho
  rw [hnn] at ho2 ⊢
  have e0 : l.flatMap bestCs = (List.range n).flatMap (bstEn l) := by
    rw [flat_bst, ← hnn, nthB_map]
  rw [e0] at ho2
  have hk : ∀ x, (bstEn l x).length = 4 := fun _ => rfl
  obtain ⟨hH, hg, hb, h1', h2', cur, hcur, hcs⟩ := own_holds hk ho2
  have B : SBase Try.prog (bstEn l) 4 n g 0 W 85 #[.pointer (some ⟨gk, 0, none⟩)] (fun i j => cmpI (nthB l i).sz (nthB l j).sz) (bstKey l) := by
    refine ⟨⟨hk, ?_, hH, hg⟩, ?_, enters_of Try.func85 (by kernel_rfl) rfl, ?_, by omega⟩
    · intro x u hu
      rw [bstEn_is] at hu
      exact bestCs_one _ u hu
    · intro m os dk _ x y
      exact cmpB_is (nthB l x) (nthB l y) gk _ ((grownBy_sortedV _).cell hq (by simp; omega)) (z := cmpI (nthB l x).sz (nthB l y).sz) rfl
    · intro x y hx hy
      rw [cmpI_neg]
      unfold bstKey
      omega
  have HB := Lib.hid B
  have S0 := Lib.hid (SorK.start B)
  have HN := Lib.hid hnn
  have HK := Lib.hid (And.intro hcur (And.intro hb (And.intro h1' (And.intro h2' hcs))))
  have h0 : 0 < n := by omega
  clear B hcur hcs hb h1' h2' hH hg e0 ho2 ho hnn hn h1 hq hgk hne
  go_enter Try.func84, Try.ntmps84
  go_wp2_with fail
  refine (bst_stable HB S0 h0 cap).mono ?_; rintro e w1 ⟨rfl, f, hs, ho⟩
  have HO := Lib.hid ho
  clear ho S0 HB h0
  go_wp2_with fail
  go_end0
  obtain ⟨hcur, hb, h1, h2, hcs⟩ := HK.out
  have q := SorK.owns (enc := bstEn l) hs.out hk hb hcur h1 h2 hcs
  rw [flat_bst] at q
  have e1 : (List.range n).map f = stI (bstKey l) n := stI_of (Sti.ofOrd HO.out)
  rw [e1] at q
  refine ⟨rfl, ?_, hs.out.keeps⟩
  unfold srtB
  rw [HN.out]
  exact q

set_option maxRecDepth 100000 in
set_option maxHeartbeats 1600000 in
theorem inOrder_is {l : List BestV} (h1 : 1 < l.length) (hn : l.length ≤ 20000) (W : World) (base : Nat) (v : Value) (ho : W.ownsRow base 24 4 v l.length (l.flatMap bestCs)) :
    Calls Try.prog 61 #[v, .func (.func 63) #[] #[]] W fun e w' => e = .returned v ∧ w'.ownsRow base 24 4 v l.length ((srtB l).flatMap bestCs) ∧ W.grownBy w' v.ownBlock := by
  have hlt := ho.lt
  have HO := Lib.hid (ho.alloc (.cells #[.func (.func 63) #[] #[]] 88))
  have HL : Hid (∀ b, v.ownBlock = some b → b ≠ W.heap.size) := fun b e q => by have := (hlt b e).2; omega
  clear ho hlt
  go_enter Try.func61, Try.ntmps61
  go_wp2_with fail
  refine (sortB_ok h1 hn W.heap.size _ base v ?_ HL.out HO.out).mono ?_
  · exact mblock_cell (heap_alloc_new W (.cells #[.func (.func 63) #[] #[]] 88)) 0 _ rfl
  rintro e w1 ⟨rfl, ho1, hg1⟩
  have HO1 := Lib.hid ho1; have HG1 := Lib.hid hg1
  clear ho1 hg1
  go_wp2_with fail
  go_ret
  exact ⟨rfl, HO1.out, (World.grownBy_alloc _ _ _).trans HG1.out⟩
end Go.Proofs.Ytfeefijaahjheaa
