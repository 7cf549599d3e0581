/- The stable sort of a step's passings: the comparison of times, and what the sort makes of any list. -/
import Derived.Test.YtckelojdjmaliaaMCross
import Derived.Test.YtckelojdjmaliaaOrdA
import Derived.Test.YtckelojdjmaliaaMSort1
namespace Go.Proofs.Ytckelojdjmaliaa
open Go.RowKit
set_option linter.unusedSimpArgs false
set_option linter.unusedVariables false

attribute [local go_sem] Oper.semAt_some

def cmpW (a b : Nat) : Int := if a < b then -1 else if b < a then 1 else 0
theorem isNaNu_any (x : Int) (w : World) : Calls Try.prog 117 #[.int .u64 x] w fun e w' => e = .returned (.bool false) ∧ w = w' := by
  go_enter Try.func117, Try.ntmps117
  go_wp2
  go_ret
  exact ⟨ret_bool (by simp), rfl⟩
theorem compareU_any (a b : Nat) (w : World) {z : Int} (hz : Hid (cmpW a b = z)) : Calls Try.prog 99 #[.int .u64 (a : Int), .int .u64 (b : Int)] w fun e w' => e = .returned (.int .i64 z) ∧ w = w' := by
  have hz2 := hz.out
  unfold cmpW at hz2
  by_cases h1 : (a : Int) < (b : Int)
  · have HV : Hid (z = -1) := by show _ = _; rw [← hz2, if_pos (by omega)]
    clear hz2
    go_enter Try.func99, Try.ntmps99
    go_wp2_with (go_at_call 117; refine (isNaNu_any _ _).mono ?_; rintro e w1 ⟨rfl, rfl⟩)
    go_ret
    exact ⟨ret_int HV.out.symm, rfl⟩
  · by_cases h2 : (b : Int) < (a : Int)
    · have HV : Hid (z = 1) := by show _ = _; rw [← hz2, if_neg (by omega), if_pos (by omega)]
      clear hz2
      go_enter Try.func99, Try.ntmps99
      go_wp2_with (go_at_call 117; refine (isNaNu_any _ _).mono ?_; rintro e w1 ⟨rfl, rfl⟩)
      go_ret
      exact ⟨ret_int HV.out.symm, rfl⟩
    · have HV : Hid (z = 0) := by show _ = _; rw [← hz2, if_neg (by omega), if_neg (by omega)]
      clear hz2
      go_enter Try.func99, Try.ntmps99
      go_wp2_with (go_at_call 117; refine (isNaNu_any _ _).mono ?_; rintro e w1 ⟨rfl, rfl⟩)
      go_ret
      exact ⟨ret_int HV.out.symm, rfl⟩
/-- The first of two numbers that is not 0. -/
theorem or_is (g : Nat) (a b : Int) (w : World) (h0 : w.cell? ⟨g, 0, none⟩ = some (.int .i64 a)) (h1 : w.cell? ⟨g, 1, none⟩ = some (.int .i64 b)) {z : Int} (hz : Hid ((if a = 0 then b else a) = z)) :
    Calls Try.prog 98 #[.slice (some ⟨g, 0, none⟩) 2 2] w fun e w' => e = .returned (.int .i64 z) ∧ w = w' := by
  have hz2 := hz.out
  by_cases ha : a = 0
  · rw [if_pos ha] at hz2
    subst ha
    by_cases hb : b = 0
    · subst hb
      have HV := Lib.hid hz2
      clear hz2
      go_enter Try.func98, Try.ntmps98
      go_wp2_with fail
      go_loopw [8] (fun iv wr => ∃ k : Nat, k ≤ 2 ∧ iv = .int .i64 k ∧ w = wr) (fun iv _ => 2 - (intOf iv).toNat)
      case atStart => exact ⟨0, by omega, rfl, rfl⟩
      case round =>
        obtain ⟨k, hk, rfl, rfl⟩ := hrel
        rcases (show k = 0 ∨ k = 1 ∨ k = 2 by omega) with rfl | rfl | rfl
        · go_wp2_with fail
          go_roundw
          case rel => exact ⟨1, by omega, by first | rfl | go_num, by first | rfl | trivial⟩
          case measure => simp [intOf]
        · go_wp2_with fail
          go_roundw
          case rel => exact ⟨2, by omega, by first | rfl | go_num, by first | rfl | trivial⟩
          case measure => simp [intOf]
        · go_wp2_with fail
          go_ret
          exact ⟨ret_int HV.out, rfl⟩
    · have hb1 : (b != 0) = true := by simpa using hb
      have HV := Lib.hid hz2
      clear hz2
      go_enter Try.func98, Try.ntmps98
      go_wp2_with fail
      go_loopw [8] (fun iv wr => ∃ k : Nat, k ≤ 1 ∧ iv = .int .i64 k ∧ w = wr) (fun iv _ => 2 - (intOf iv).toNat)
      case atStart => exact ⟨0, by omega, rfl, rfl⟩
      case round =>
        obtain ⟨k, hk, rfl, rfl⟩ := hrel
        rcases (show k = 0 ∨ k = 1 by omega) with rfl | rfl
        · go_wp2_with fail
          go_roundw
          case rel => exact ⟨1, by omega, by first | rfl | go_num, by first | rfl | trivial⟩
          case measure => simp [intOf]
        · go_wp2_with fail
          go_ret
          exact ⟨ret_int HV.out, rfl⟩
  · rw [if_neg ha] at hz2
    have ha1 : (a != 0) = true := by simpa using ha
    have HV := Lib.hid hz2
    clear hz2
    go_enter Try.func98, Try.ntmps98
    go_wp2_with fail
    go_loopw [8] (fun iv wr => iv = .int .i64 0 ∧ w = wr) (fun _ _ => 0)
    case atStart => exact ⟨rfl, rfl⟩
    case round =>
      obtain ⟨rfl, rfl⟩ := hrel
      go_wp2_with fail
      go_ret
      exact ⟨ret_int HV.out, rfl⟩

/-- Of passings: does the first one come earlier, purely? -/
def psgLt (x y : Psg) : Bool := decide (x.part * y.whole < y.part * x.whole)
theorem psg_ir (x : Psg) : psgLt x x = false := by unfold psgLt; simp
theorem psg_tr {x y z : Psg} (hx : PsgIn x) (hy : PsgIn y) (hz : PsgIn z) (h1 : psgLt x y = true) (h2 : psgLt y z = true) : psgLt x z = true := by
  unfold psgLt at *
  simp only [decide_eq_true_eq] at *
  have wx : 0 < x.whole := by have := hx.p0; have := hx.p1; omega
  have wy : 0 < y.whole := by have := hy.p0; have := hy.p1; omega
  have wz : 0 < z.whole := by have := hz.p0; have := hz.p1; omega
  have a1 := Int.mul_lt_mul_of_pos_right h1 wz
  have a2 := Int.mul_lt_mul_of_pos_right h2 wx
  have e1 : x.part * y.whole * z.whole = (x.part * z.whole) * y.whole := by rw [Int.mul_assoc, Int.mul_comm y.whole, ← Int.mul_assoc]
  have e2 : y.part * x.whole * z.whole = y.part * z.whole * x.whole := by rw [Int.mul_assoc, Int.mul_comm x.whole, ← Int.mul_assoc]
  have e3 : z.part * y.whole * x.whole = (z.part * x.whole) * y.whole := by rw [Int.mul_assoc, Int.mul_comm y.whole, ← Int.mul_assoc]
  rw [e1, e2] at a1
  rw [e3] at a2
  exact Int.lt_of_mul_lt_mul_right (Int.lt_trans a1 a2) (Int.le_of_lt wy)
theorem psg_nt {x y z : Psg} (hx : PsgIn x) (hy : PsgIn y) (hz : PsgIn z) (h : psgLt x z = true) : psgLt x y = true ∨ psgLt y z = true := by
  refine Classical.byContradiction fun hc => ?_
  unfold psgLt at *
  simp only [decide_eq_true_eq, not_or, Int.not_lt] at *
  have wx : 0 < x.whole := by have := hx.p0; have := hx.p1; omega
  have wy : 0 < y.whole := by have := hy.p0; have := hy.p1; omega
  have wz : 0 < z.whole := by have := hz.p0; have := hz.p1; omega
  have a1 := Int.mul_le_mul_of_nonneg_right hc.1 (Int.le_of_lt wz)
  have a2 := Int.mul_le_mul_of_nonneg_right hc.2 (Int.le_of_lt wx)
  have a3 := Int.mul_lt_mul_of_pos_right h wy
  have e1 : x.part * y.whole * z.whole = (x.part * z.whole) * y.whole := by rw [Int.mul_assoc, Int.mul_comm y.whole, ← Int.mul_assoc]
  have e2 : y.part * x.whole * z.whole = y.part * z.whole * x.whole := by rw [Int.mul_assoc, Int.mul_comm x.whole, ← Int.mul_assoc]
  have e3 : z.part * y.whole * x.whole = (z.part * x.whole) * y.whole := by rw [Int.mul_assoc, Int.mul_comm y.whole, ← Int.mul_assoc]
  rw [e1, e2] at a1
  rw [e3] at a2
  omega
/-- What the comparison of two products, taken apart, tells. -/
def cmpP (X U : Nat) : Int := if cmpW (X / 18446744073709551616) (U / 18446744073709551616) = 0 then cmpW (X % 18446744073709551616) (U % 18446744073709551616) else cmpW (X / 18446744073709551616) (U / 18446744073709551616)
theorem cmpP_neg (X U : Nat) : cmpP X U < 0 ↔ X < U := by
  unfold cmpP cmpW
  repeat' split
  all_goals omega
def cfP (x y : Psg) : Int := cmpP (x.part.toNat * y.whole.toNat) (y.part.toNat * x.whole.toNat)
theorem cfP_neg {x y : Psg} (hx : PsgIn x) (hy : PsgIn y) : cfP x y < 0 ↔ psgLt x y = true := by
  unfold cfP psgLt
  rw [cmpP_neg, decide_eq_true_eq]
  have a1 : (x.part.toNat : Int) = x.part := by have := hx.p0; omega
  have a2 : (y.part.toNat : Int) = y.part := by have := hy.p0; omega
  have b1 : (x.whole.toNat : Int) = x.whole := by have := hx.p0; have := hx.p1; omega
  have b2 : (y.whole.toNat : Int) = y.whole := by have := hy.p0; have := hy.p1; omega
  rw [← a1, ← a2, ← b1, ← b2]
  simp only [Int.toNat_natCast]
  rw [← Int.natCast_mul, ← Int.natCast_mul]
  exact Int.ofNat_lt.symm

theorem grw3 (w : World) (o1 o2 o3 : Obj) : ∃ q os, ((w.alloc o1).alloc o2).alloc o3 = Go.Sort.grow (w.drewN q) os :=
  ⟨0, #[o1] ++ #[o2] ++ #[o3], by rw [Go.Sort.alloc_eq_grow, Go.Sort.alloc_eq_grow, Go.Sort.alloc_eq_grow, Go.Sort.grow_grow, Go.Sort.grow_grow]; rfl⟩
set_option maxRecDepth 100000 in
set_option maxHeartbeats 3200000 in
theorem compareTimes_is (x y : Psg) (hx : PsgIn x) (hy : PsgIn y) (w : World) {z : Int} (hz : Hid (cfP x y = z)) :
    Calls Try.prog 78 #[.agg #[.int .i64 x.gate, .int .i64 x.part, .int .i64 x.whole], .agg #[.int .i64 y.gate, .int .i64 y.part, .int .i64 y.whole]] w fun e w' => e = .returned (.int .i64 z) ∧ ∃ q os, w' = Go.Sort.grow (w.drewN q) os := by
  obtain ⟨xg, xp, xw⟩ := x
  obtain ⟨yg, yp, yw⟩ := y
  obtain ⟨_, _, x0, x1, x2⟩ := hx
  obtain ⟨_, _, y0, y1, y2⟩ := hy
  simp only at x0 x1 x2 y0 y1 y2
  obtain ⟨a, ha⟩ : ∃ a : Nat, xp = a := ⟨xp.toNat, by omega⟩
  obtain ⟨b, hb⟩ : ∃ b : Nat, xw = b := ⟨xw.toNat, by omega⟩
  obtain ⟨c, hc⟩ : ∃ c : Nat, yp = c := ⟨yp.toNat, by omega⟩
  obtain ⟨d, hd⟩ : ∃ d : Nat, yw = d := ⟨yw.toNat, by omega⟩
  subst ha; subst hb; subst hc; subst hd
  have hz2 := hz.out
  unfold cfP cmpP at hz2
  simp only [Int.toNat_natCast] at hz2
  have la : a < 18446744073709551616 := by omega
  have lb : b < 18446744073709551616 := by omega
  have lc : c < 18446744073709551616 := by omega
  have ld : d < 18446744073709551616 := by omega
  have wa : IntKind.u64.wrap (a : Int) = (a : Int) := by rw [IntKind.wrap_u64]; omega
  have wb : IntKind.u64.wrap (b : Int) = (b : Int) := by rw [IntKind.wrap_u64]; omega
  have wc : IntKind.u64.wrap (c : Int) = (c : Int) := by rw [IntKind.wrap_u64]; omega
  have wd : IntKind.u64.wrap (d : Int) = (d : Int) := by rw [IntKind.wrap_u64]; omega
  obtain ⟨h1, e1⟩ : ∃ h, a * d / 18446744073709551616 = h := ⟨_, rfl⟩
  obtain ⟨l1, e2⟩ : ∃ h, a * d % 18446744073709551616 = h := ⟨_, rfl⟩
  obtain ⟨h2, e3⟩ : ∃ h, c * b / 18446744073709551616 = h := ⟨_, rfl⟩
  obtain ⟨l2, e4⟩ : ∃ h, c * b % 18446744073709551616 = h := ⟨_, rfl⟩
  rw [e1, e2, e3, e4] at hz2
  obtain ⟨A, hA⟩ : ∃ A, cmpW h1 h2 = A := ⟨_, rfl⟩
  obtain ⟨B, hB⟩ : ∃ B, cmpW l1 l2 = B := ⟨_, rfl⟩
  rw [hA, hB] at hz2
  have E1 := Lib.hid e1; have E2 := Lib.hid e2; have E3 := Lib.hid e3; have E4 := Lib.hid e4; have HA := Lib.hid hA; have HB := Lib.hid hB; have HZ := Lib.hid hz2
  have LA := Lib.hid la; have LB := Lib.hid lb; have LC := Lib.hid lc; have LD := Lib.hid ld
  clear e1 e2 e3 e4 hA hB hz2 hz la lb lc ld x0 x1 x2 y0 y1 y2
  go_enter Try.func78, Try.ntmps78
  go_wp2_with (first
    | (go_at_call_of 83 (Value.int IntKind.u64 (a : Int)); refine (mul_any a d LA.out LD.out _ E1 E2).mono ?_; rintro e w1 ⟨rfl, rfl⟩)
    | (go_at_call_of 83 (Value.int IntKind.u64 (c : Int)); refine (mul_any c b LC.out LB.out _ E3 E4).mono ?_; rintro e w1 ⟨rfl, rfl⟩)
    | (go_at_call_of 99 (Value.int IntKind.u64 (h1 : Int)); refine (compareU_any h1 h2 _ HA).mono ?_; rintro e w1 ⟨rfl, rfl⟩)
    | (go_at_call_of 99 (Value.int IntKind.u64 (l1 : Int)); refine (compareU_any l1 l2 _ HB).mono ?_; rintro e w1 ⟨rfl, rfl⟩)
    | (go_at_call 98; refine (or_is _ A B _ (by go_simp) (by go_simp) HZ).mono ?_; rintro e w1 ⟨rfl, rfl⟩))
  go_ret
  exact ⟨by first | rfl | exact ret_int rfl, grw3 _ _ _ _⟩

/-- Element i of a list; one that is right, beyond its end. -/
def psD (l : List Psg) (i : Nat) : Psg := l.getD i ⟨0, 1, 1⟩
theorem psD_in {l : List Psg} (h : ∀ x ∈ l, PsgIn x) (i : Nat) : PsgIn (psD l i) := by
  unfold psD
  rw [List.getD_eq_getElem?_getD]
  rcases Nat.lt_or_ge i l.length with c | c
  · rw [List.getElem?_eq_getElem c]; exact h _ (List.getElem_mem c)
  · rw [List.getElem?_eq_none c]; exact ⟨by decide, by decide, by decide, by decide, by decide⟩
theorem psD_at {l : List Psg} {i : Nat} (h : i < l.length) : psD l i = l[i] := by unfold psD; rw [List.getD_eq_getElem?_getD, List.getElem?_eq_getElem h]; rfl
theorem psD_mem {l : List Psg} {i : Nat} (h : i < l.length) : psD l i ∈ l := by rw [psD_at h]; exact List.getElem_mem h
theorem psD_map (l : List Psg) : (List.range l.length).map (psD l) = l := by
  apply List.ext_getElem (by simp)
  intro i h1 h2
  simp only [List.getElem_map, List.getElem_range]
  exact psD_at h2
/-- The key of a passing: how many come behind it. -/
def psKey (l : List Psg) (i : Nat) : Int := rankK psgLt l (psD l i)
theorem psKey_iff {l : List Psg} (h : ∀ x ∈ l, PsgIn x) {i j : Nat} (hi : i < l.length) (hj : j < l.length) : psKey l j < psKey l i ↔ psgLt (psD l i) (psD l j) = true :=
  rank_iff (fun x _ => psg_ir x) (fun x hx y hy z hz => psg_tr (h x hx) (h y hy) (h z hz)) (fun x hx y hy z hz => psg_nt (h x hx) (h y hy) (h z hz)) (psD_mem hi) (psD_mem hj)
/-- What the sort makes of a list. -/
def srtP (l : List Psg) : List Psg := (stI (psKey l) l.length).map (psD l)
theorem srtP_len (l : List Psg) : (srtP l).length = l.length := by unfold srtP; rw [List.length_map, (stI_is _ _).len]
theorem srtP_perm (l : List Psg) : (srtP l).Perm l := by
  have h := ((stI_is (psKey l) l.length).perm).map (psD l)
  rw [psD_map] at h
  exact h
def psgEn (l : List Psg) : Nat → List Value := psg_E (fun i => (psD l i).gate) (fun i => (psD l i).part) (fun i => (psD l i).whole)
theorem psgEn_is (l : List Psg) (i : Nat) : psgEn l i = psgCs (psD l i) := rfl
theorem flat_psD (l : List Psg) (is : List Nat) : is.flatMap (psgEn l) = (is.map (psD l)).flatMap psgCs := by
  rw [List.flatMap_map]
  rfl

set_option maxRecDepth 100000 in
theorem sort_ok {l : List Psg} (h : ∀ x ∈ l, PsgIn x) (hn : l.length ≤ 20000) : SortOk l (srtP l) := by
  rcases Nat.lt_or_ge 1 l.length with c | c
  · intro W base v ho
    obtain ⟨n, hnn⟩ : ∃ n, l.length = n := ⟨_, rfl⟩
    obtain ⟨g, cap, hv⟩ : ∃ g cap, v = .slice (some ⟨g, 0, none⟩) l.length cap := by
      rcases ho.2 with ⟨_, h0⟩ | ⟨g, cap, cur, hv, _⟩
      · omega
      · exact ⟨g, cap, hv⟩
    subst hv
    have ho2 := ho
    rw [hnn] at ho2 ⊢
    have e0 : l.flatMap psgCs = (List.range n).flatMap (psgEn l) := by
      rw [flat_psD, ← hnn, psD_map]
    rw [e0] at ho2
    have hk : ∀ x, (psgEn l x).length = 3 := fun _ => rfl
    obtain ⟨hH, hg, hb, h1, h2, cur, hcur, hcs⟩ := own_holds hk ho2
    have B : SBase Try.prog (psgEn l) 3 n g 0 W 78 #[] (fun i j => cfP (psD l i) (psD l j)) (psKey l) := by
      refine ⟨⟨hk, ?_, hH, hg⟩, ?_, enters_of Try.func78 (by kernel_rfl) rfl, ?_, by omega⟩
      · intro x u hu
        rw [psgEn_is] at hu
        simp only [psgCs, List.mem_cons, List.not_mem_nil, or_false] at hu
        rcases hu with rfl | rfl | rfl <;> rfl
      · intro m os dk _ x y
        exact compareTimes_is _ _ (psD_in h x) (psD_in h y) _ (z := cfP (psD l x) (psD l y)) rfl
      · intro x y hx hy
        rw [← hnn] at hx hy
        rw [cfP_neg (psD_in h x) (psD_in h y), psKey_iff h hx hy]
    have HB := Lib.hid B
    have S0 := Lib.hid (SorK.start B)
    have HN := Lib.hid hnn
    have HK := Lib.hid (And.intro hcur (And.intro hb (And.intro h1 (And.intro h2 hcs))))
    have h0 : 0 < n := by omega
    clear B hcur hcs hb h1 h2 hH hg e0 ho2 ho hnn hn c h
    go_enter Try.func77, Try.ntmps77
    go_wp2_with fail
    refine (psg_stable HB S0 h0 cap).mono ?_; rintro e w1 ⟨rfl, f, hs, ho⟩
    have HO := Lib.hid ho
    clear ho S0 HB h0
    go_wp2_with fail
    go_end0
    obtain ⟨hcur, hb, h1, h2, hcs⟩ := HK.out
    have q := SorK.owns (enc := psgEn l) hs.out hk hb hcur h1 h2 hcs
    rw [flat_psD] at q
    have e1 : (List.range n).map f = stI (psKey l) n := stI_of (Sti.ofOrd HO.out)
    rw [e1] at q
    refine ⟨rfl, ?_, hs.out.keeps⟩
    unfold srtP
    rw [HN.out]
    exact q
  · have e : srtP l = l := by
      have hp := srtP_perm l
      rcases Nat.lt_or_ge l.length 1 with d | d
      · have h1 : l = [] := List.eq_nil_of_length_eq_zero (by omega)
        rw [h1] at hp ⊢
        exact List.perm_nil.1 hp
      · obtain ⟨x, hx⟩ := List.length_eq_one_iff.1 (show l.length = 1 by omega)
        rw [hx] at hp ⊢
        exact List.perm_singleton.1 hp
    rw [e]
    exact sort_short c
end Go.Proofs.Ytckelojdjmaliaa
