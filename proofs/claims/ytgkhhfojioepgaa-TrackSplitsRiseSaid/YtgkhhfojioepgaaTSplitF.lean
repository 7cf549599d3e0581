/- Splits, step by step: what is gone and what there is, purely; the memory of Splits. -/
import Derived.Test.YtgkhhfojioepgaaTSplitR
import Derived.Test.YtgkhhfojioepgaaBaseC
import Derived.Deep.RegionHeld3
import Derived.Test.YtgkhhfojioepgaaTSOk
namespace Go.Proofs.Ytgkhhfojioepgaa
open Go.RowKit Go.Shelf
set_option linter.unusedSimpArgs false
set_option linter.unusedVariables false

/-- How many splits there are when so far was gone. -/
noncomputable def nP (way g : Int) : Nat := (g / way).toNat
/-- A split within a step. -/
noncomputable def evV (ss : List Smp) (way g : Int) (k j : Nat) : Int × Int := (((j : Int) + 1) * way, 1000 * (smpD ss k).t + (scaleV (((j : Int) + 1) * way - g) (1000 * ((smpD ss (k + 1)).t - (smpD ss k).t)) (stepW (smpD ss k) (smpD ss (k + 1))) 2).1)
noncomputable def evVs (ss : List Smp) (way g : Int) (k n m : Nat) : List Value := (List.range m).flatMap fun i => splCs (evV ss way g k (n + i))
theorem evVs_succ (ss : List Smp) (way g : Int) (k n m : Nat) : evVs ss way g k n (m + 1) = evVs ss way g k n m ++ splCs (evV ss way g k (n + m)) := by simp [evVs, List.range_succ]
noncomputable def sP (ss : List Smp) (way : Int) (pre : List (StepNo ss)) : Int × List Value :=
  pre.foldl (fun s x => (s.1 + stepW (smpD ss x.1) (smpD ss (x.1 + 1)), s.2 ++ evVs ss way s.1 x.1 (nP way s.1) (nP way (s.1 + stepW (smpD ss x.1) (smpD ss (x.1 + 1))) - nP way s.1))) (0, [])
theorem sP_snoc (ss : List Smp) (way : Int) (pre : List (StepNo ss)) (x : StepNo ss) : sP ss way (pre ++ [x]) = ((sP ss way pre).1 + stepW (smpD ss x.1) (smpD ss (x.1 + 1)), (sP ss way pre).2 ++ evVs ss way (sP ss way pre).1 x.1 (nP way (sP ss way pre).1) (nP way ((sP ss way pre).1 + stepW (smpD ss x.1) (smpD ss (x.1 + 1))) - nP way (sP ss way pre).1)) := by simp [sP]
theorem sP_bd {ss : List Smp} (hp : ∀ x ∈ ss, inPlane x) (way : Int) : ∀ (pre : List (StepNo ss)), 0 ≤ (sP ss way pre).1 ∧ (sP ss way pre).1 ≤ pre.length * 300000000 := by
  intro pre
  induction h : pre.length generalizing pre with
  | zero =>
    have := List.eq_nil_of_length_eq_zero h
    subst this
    simp [sP]
  | succ m ih =>
    rcases List.eq_nil_or_concat pre with rfl | ⟨ini, x, rfl⟩
    · simp at h
    · rw [List.concat_eq_append] at h ⊢
      have := ih ini (by simpa using h)
      have := stepW_bd (smpD_plane hp x.1) (smpD_plane hp (x.1 + 1))
      rw [sP_snoc]
      simp only
      omega
theorem sP_done {ss : List Smp} (hp : ∀ x ∈ ss, inPlane x) {way : Int} (hw : 1 ≤ way) : ∀ (m : Nat) (pre : List (StepNo ss)), pre.map (·.1) = List.range m → sP ss way pre = (wayN ss m, splVs ss way (cntN ss way m)) := by
  intro m
  induction m with
  | zero =>
    intro pre h
    have : pre = [] := List.eq_nil_of_length_eq_zero (by have := congrArg List.length h; rwa [List.length_map, List.length_range] at this)
    subst this
    rw [cnt_zero]
    simp [sP, wayN, splVs]
  | succ m ih =>
    intro pre h
    rcases List.eq_nil_or_concat pre with rfl | ⟨ini, x, rfl⟩
    · have := congrArg List.length h; rw [List.length_map, List.length_range] at this; simp at this
    · rw [List.concat_eq_append] at h ⊢
      rw [List.map_append, List.range_succ] at h
      have hx := List.append_inj_right' h rfl
      have hi := List.append_inj_left' h rfl
      simp only [List.map_cons, List.map_nil, List.cons.injEq, and_true] at hx
      have hxl := x.2
      rw [sP_snoc, ih ini hi, hx]
      rw [hx] at hxl
      simp only
      have hn : ∀ k, nP way (wayN ss k) = cntN ss way k := fun k => rfl
      have hs : wayN ss m + stepW (smpD ss m) (smpD ss (m + 1)) = wayN ss (m + 1) := rfl
      rw [hs, hn, hn]
      have hc := cnt_up hp hw m
      refine Prod.ext rfl ?_
      show splVs ss way (cntN ss way m) ++ evVs ss way (wayN ss m) m (cntN ss way m) (cntN ss way (m + 1) - cntN ss way m) = splVs ss way (cntN ss way (m + 1))
      obtain ⟨d, hd⟩ : ∃ d, cntN ss way (m + 1) = cntN ss way m + d := ⟨cntN ss way (m + 1) - cntN ss way m, by omega⟩
      rw [hd, Nat.add_sub_cancel_left]
      have key : ∀ e, e ≤ d → splVs ss way (cntN ss way m) ++ evVs ss way (wayN ss m) m (cntN ss way m) e = splVs ss way (cntN ss way m + e) := fun e => by
        induction e with
        | zero => intro _; simp [evVs]
        | succ e ihe =>
          intro he
          rw [evVs_succ, ← List.append_assoc, ihe (by omega), show cntN ss way m + (e + 1) = (cntN ss way m + e) + 1 by omega, splVs_succ]
          congr 2
          rw [spl_at hp hw hxl (show cntN ss way m ≤ cntN ss way m + e by omega) (by omega)]
          unfold evV atD
          rw [show wayN ss (m + 1) - wayN ss m = stepW (smpD ss m) (smpD ss (m + 1)) by omega]
      exact key d (Nat.le_refl _)

/-- The boxes of Splits. -/
structure SpB (w : World) (Bl Bg Bn Bs : Nat) (sl : Value) (way gone next : Int) (v : Value) (W : World) : Prop where
  y : Boxed W (w.heap.size + 1) 3 (.int .i64 way)
  r4 : Boxed W (w.heap.size + 2) 62 (.slice none 0 0)
  r5 : Boxed W (w.heap.size + 3) 29 (.int .i64 0)
  l : Boxed W Bl 62 v
  g : Boxed W Bg 3 (.int .i64 gone)
  x : Boxed W Bn 3 (.int .i64 next)
  s : Boxed W Bs 22 sl
  b : Below w.heap.size w W
/-- Where they lie. -/
def SpD (n0 Bl Bg Bn Bs base : Nat) : Prop := n0 + 3 < Bl ∧ Bl < Bg ∧ Bl < Bn ∧ Bg ≠ Bn ∧ Bg < Bs ∧ Bn < Bs ∧ Bs < base
theorem sp_keep {W W' : World} {row : Option Nat} {B base : Nat} {t : TypeId} {v : Value} (h : Boxed W B t v) (hg : W.grownBy W' row) (hB : B < base) (hr : ∀ r, row = some r → base ≤ r) : Boxed W' B t v :=
  (hg.block B (Array.getElem?_eq_some_iff.1 h).1 (fun e => by have := hr B e.symm; omega)).trans h
section
variable {w : World} {Bl Bg Bn Bs base : Nat} {sl : Value} {way gone next : Int} {v : Value} {W W' : World}
theorem SpB.grown (h : SpB w Bl Bg Bn Bs sl way gone next v W) (D : SpD w.heap.size Bl Bg Bn Bs base) {row : Option Nat} (hg : W.grownBy W' row) (hr : ∀ r, row = some r → base ≤ r) : SpB w Bl Bg Bn Bs sl way gone next v W' := by
  obtain ⟨d1, d2, d3, d4, d5, d6, d7⟩ := D
  exact ⟨sp_keep h.y hg (by omega) hr, sp_keep h.r4 hg (by omega) hr, sp_keep h.r5 hg (by omega) hr, sp_keep h.l hg (by omega) hr, sp_keep h.g hg (by omega) hr, sp_keep h.x hg (by omega) hr, sp_keep h.s hg (by omega) hr, h.b.grown hg h.b.size (fun k e => by have := hr k e; omega)⟩
theorem SpB.own (h : SpB w Bl Bg Bn Bs sl way gone next v W) {row : Option Nat} {B : Nat} (hB : w.heap.size ≤ B) (hg : W.grownBy W' row) (hr : ∀ r, row = some r → B ≤ r ∧ ∃ o : Obj, W.heap[r]? = some o ∧ o.isCells = false) : SpB w Bl Bg Bn Bs sl way gone next v W' := by
  have k : ∀ {C : Nat} {t : TypeId} {u : Value}, Boxed W C t u → Boxed W' C t u := fun {C t u} hb => hb.kept hg (fun e => by
    obtain ⟨_, o, ho, hc⟩ := hr C e.symm
    rw [show W.heap[C]? = _ from hb] at ho; cases ho; cases hc)
  exact ⟨k h.y, k h.r4, k h.r5, k h.l, k h.g, k h.x, k h.s, h.b.grown hg h.b.size (fun r e => Nat.le_trans hB (hr r e).1)⟩
theorem SpB.setL (h : SpB w Bl Bg Bn Bs sl way gone next v W) (D : SpD w.heap.size Bl Bg Bn Bs base) (u : Value) : SpB w Bl Bg Bn Bs sl way gone next u (W.setCell ⟨Bl, 0, none⟩ u) := by
  obtain ⟨d1, d2, d3, d4, d5, d6, d7⟩ := D
  refine ⟨h.y.other (by omega) _, h.r4.other (by omega) _, h.r5.other (by omega) _, ?_, h.g.other (by omega) _, h.x.other (by omega) _, h.s.other (by omega) _, h.b.setCell (by show _ ≤ Bl; omega) _⟩
  exact h.l.set u
theorem SpB.setG (h : SpB w Bl Bg Bn Bs sl way gone next v W) (D : SpD w.heap.size Bl Bg Bn Bs base) (u : Int) : SpB w Bl Bg Bn Bs sl way u next v (W.setCell ⟨Bg, 0, none⟩ (.int .i64 u)) := by
  obtain ⟨d1, d2, d3, d4, d5, d6, d7⟩ := D
  refine ⟨h.y.other (by omega) _, h.r4.other (by omega) _, h.r5.other (by omega) _, h.l.other (by omega) _, ?_, h.x.other (by omega) _, h.s.other (by omega) _, h.b.setCell (by show _ ≤ Bg; omega) _⟩
  exact h.g.set _
theorem SpB.setN (h : SpB w Bl Bg Bn Bs sl way gone next v W) (D : SpD w.heap.size Bl Bg Bn Bs base) (u : Int) : SpB w Bl Bg Bn Bs sl way gone u v (W.setCell ⟨Bn, 0, none⟩ (.int .i64 u)) := by
  obtain ⟨d1, d2, d3, d4, d5, d6, d7⟩ := D
  refine ⟨h.y.other (by omega) _, h.r4.other (by omega) _, h.r5.other (by omega) _, h.l.other (by omega) _, h.g.other (by omega) _, ?_, h.s.other (by omega) _, h.b.setCell (by show _ ≤ Bn; omega) _⟩
  exact h.x.set _
end
/-- An own row, kept where a box is set, or where what is no row of cells grows. -/
theorem own_box {w : World} {base : Nat} {e : TypeId} {size n : Nat} {v : Value} {xs : List Value} (h : w.ownsRow base e size v n xs) {B : Nat} (hB : B < base) (u : Value) : (w.setCell ⟨B, 0, none⟩ u).ownsRow base e size v n xs :=
  h.kept (grownBy_setCell' w B u) (by
    by_cases hv : v.ownBlock = none
    · exact .inl hv
    · refine .inr (fun e => ?_)
      have := (h.lt B e).1
      omega)
theorem own_cells {w w' : World} {base : Nat} {e : TypeId} {size n : Nat} {v : Value} {xs : List Value} (h : w.ownsRow base e size v n xs) {row : Option Nat} (hg : w.grownBy w' row) (hr : ∀ r, row = some r → ∃ o : Obj, w.heap[r]? = some o ∧ o.isCells = false) : w'.ownsRow base e size v n xs :=
  h.kept hg (by
    rcases h.2 with ⟨hv, _⟩ | ⟨g, cap, cur, rfl, hb, hgg, rest⟩
    · exact .inl (by rw [hv]; rfl)
    · refine .inr (fun e' => ?_)
      obtain ⟨o, ho, hc⟩ := hr g (by rw [← e']; rfl)
      rw [hgg] at ho; cases ho; cases hc)
/-- The row's block is not a box of another type. -/
theorem own_far {w : World} {base : Nat} {e t : TypeId} {size n : Nat} {v : Value} {xs : List Value} (h : w.ownsRow base e size v n xs) {B : Nat} {cs : Array Value} {f : Nat × Nat} (hB : w.heap[B]? = some (.cells cs t f)) (hne : t ≠ e) : v.ownBlock ≠ some B := fun he => by
  rcases h.2 with ⟨hv, _⟩ | ⟨g, cap, cur, rfl, hb, hgg, rest⟩
  · rw [hv] at he; cases he
  · have : g = B := by simpa [Value.ownBlock] using he
    subst this
    rw [hgg] at hB; cases hB; exact hne rfl

section
variable {P : Program} {ops : Array Oper} {Q : Exit → Go.Act → World → Prop} {md : Region.Mode} {n : Nat}
theorem operIn_wide {o : Oper} {K : Go.Act → World → Prop} {a : Go.Act} {w : World} (hd : ∀ c, o.op ≠ .defer c) (h : o.wp P a w K Q) : o.wpIn Fence.wide n P a w K Q := by
  unfold Oper.wp at h
  unfold Oper.wpIn
  refine ⟨fun _ _ => trivial, ?_⟩
  rw [Oper.semAt_plain _ _ _ hd]
  generalize (execOp a.eval o).run P w = r at *
  cases r with
  | ok x w' =>
    cases x with
    | value v => exact h
    | skip => exact h
    | defer d => exact h
    | enter f args => exact ⟨fun q => by simp [Fence.wide] at q, callsIn_wide.2 h⟩
    | row r args => exact ⟨fun q => by simp [Fence.wide] at q, rowsIn_wide h⟩
    | _ => exact h.elim
  | halt x w' =>
    cases x <;> first | exact h | exact h.elim
theorem opIn_wide {i : Nat} {K : Go.Act → World → Prop} {a : Go.Act} {w : World} (hd : ∀ (j : Nat) (o : Oper), ops[j]? = some o → ∀ c, o.op ≠ .defer c) (hno : ¬ LetsOut Q) (h : wpOp P ops Q i K a w) : wpOpIn Fence.wide n P ops Q i K a w := by
  unfold wpOp at h
  unfold wpOpIn
  cases ho : ops[i]? with
  | none => simpa [ho] using h
  | some o =>
    simp only [ho] at h ⊢
    by_cases hw : Region.wanted o (yielded ops a.tmps) = true
    · rw [if_pos hw] at h ⊢
      rcases h with h | h
      · exact operIn_wide (hd i o ho) h
      · exact absurd h.2 hno
    · rw [if_neg hw] at h ⊢
      exact ⟨fun _ _ => trivial, h⟩
theorem anyIn_wide (hd : ∀ (j : Nat) (o : Oper), ops[j]? = some o → ∀ c, o.op ≠ .defer c) (hno : ¬ LetsOut Q) : ∀ (fuel : Nat) (listed : Array Bool) (a : Go.Act) (w : World), wpAny P md ops Q fuel listed a w → wpAnyIn Fence.wide n P md ops Q fuel listed a w
  | 0, _, _, _, h => h
  | fuel + 1, listed, a, w, h => ⟨h.1, fun i hi => opIn_wide hd hno (wpOp_mono (fun a' w' h' => anyIn_wide hd hno fuel _ a' w' h') (h.2 i hi))⟩
/-- A region outside of rounds, under the wide fence: from the world behind the draw, a condition being kept. -/
theorem region_in_wide {S : World → Prop} {id : Nat} {a : Go.Act} {w : World} (hm : P.follows .mixedOrders = true) (hd : noDefer ops = true) (hno : ¬ LetsOut (NoPanic Q)) (hS : S w.drew)
    (h : S w.drew → wpAnyH P .any ops (NoPanic Q) S ops.size (Array.replicate ops.size false) a w.drew) : (Code.region id ops true).wpIn Fence.wide n P Q a w :=
  Code.wpIn_mono NoPanic.imp (wpIn_region_any hm (anyIn_wide (noDefer_spec hd) hno _ _ _ _ (wpAny_of_held _ _ _ _ (h hS))))
end

/-- The memory of Splits behind its variables. -/
structure Sp0 (w : World) (Bl Bg Bn : Nat) (so : Option Addr) (sn sc : Nat) (way : Int) (W : World) : Prop where
  b3 : W.cell? ⟨w.heap.size, 3, none⟩ = some (.slice so sn sc)
  y : Boxed W (w.heap.size + 1) 3 (.int .i64 way)
  r4 : Boxed W (w.heap.size + 2) 62 (.slice none 0 0)
  r5 : Boxed W (w.heap.size + 3) 29 (.int .i64 0)
  l : Boxed W Bl 62 (.slice none 0 0)
  g : Boxed W Bg 3 (.int .i64 0)
  x : Boxed W Bn 3 (.int .i64 way)
  b : Below w.heap.size w W
  d : w.heap.size + 3 < Bl ∧ Bl < Bg ∧ Bl < Bn ∧ Bg ≠ Bn
theorem sp0_two {w V : World} {Bl : Nat} {so : Option Addr} {sn sc : Nat} {way : Int} (b3 : V.cell? ⟨w.heap.size, 3, none⟩ = some (.slice so sn sc)) (y : Boxed V (w.heap.size + 1) 3 (.int .i64 way)) (r4 : Boxed V (w.heap.size + 2) 62 (.slice none 0 0)) (r5 : Boxed V (w.heap.size + 3) 29 (.int .i64 0)) (l : Boxed V Bl 62 (.slice none 0 0)) (b : Below w.heap.size w V) (d : w.heap.size + 3 < Bl) :
    Sp0 w Bl V.heap.size (V.heap.size + 1) so sn sc way ((V.alloc (.cells #[.int .i64 0] 3)).alloc (.cells #[.int .i64 way] 3)) ∧
    Sp0 w Bl (V.heap.size + 1) V.heap.size so sn sc way ((V.alloc (.cells #[.int .i64 way] 3)).alloc (.cells #[.int .i64 0] 3)) := by
  have hl := l.lt
  have n1 : ∀ (u u' : Int), Boxed ((V.alloc (.cells #[.int .i64 u] 3)).alloc (.cells #[.int .i64 u'] 3)) V.heap.size 3 (.int .i64 u) := fun u u' => (Boxed.new V _ _).alloc _
  have n2 : ∀ (u u' : Int), Boxed ((V.alloc (.cells #[.int .i64 u] 3)).alloc (.cells #[.int .i64 u'] 3)) (V.heap.size + 1) 3 (.int .i64 u') := fun u u' => by
    have := Boxed.new (V.alloc (.cells #[.int .i64 u] 3)) 3 (.int .i64 u')
    simpa using this
  have bb : ∀ (u u' : Int), Below w.heap.size w ((V.alloc (.cells #[.int .i64 u] 3)).alloc (.cells #[.int .i64 u'] 3)) := fun u u' => (b.alloc (by omega : w.heap.size ≤ V.heap.size) _).alloc (by simp; omega) _
  have c3 : ∀ (u u' : Int), ((V.alloc (.cells #[.int .i64 u] 3)).alloc (.cells #[.int .i64 u'] 3)).cell? ⟨w.heap.size, 3, none⟩ = some (.slice so sn sc) := fun u u' => grown_cell (grown_trans (World.grownBy_alloc V _ none) (World.grownBy_alloc _ _ none)) b3
  exact ⟨⟨c3 _ _, (y.alloc _).alloc _, (r4.alloc _).alloc _, (r5.alloc _).alloc _, (l.alloc _).alloc _, n1 _ _, n2 _ _, bb _ _, d, hl, by omega, by omega⟩, ⟨c3 _ _, (y.alloc _).alloc _, (r4.alloc _).alloc _, (r5.alloc _).alloc _, (l.alloc _).alloc _, n2 _ _, n1 _ _, bb _ _, d, by omega, hl, by omega⟩⟩
theorem Sp0.grown {w : World} {Bl Bg Bn : Nat} {so : Option Addr} {sn sc : Nat} {way : Int} {W W' : World} (h : Sp0 w Bl Bg Bn so sn sc way W) (hg : W.grownBy W' none) : Sp0 w Bl Bg Bn so sn sc way W' :=
  ⟨grown_cell hg h.b3, h.y.kept hg (by simp), h.r4.kept hg (by simp), h.r5.kept hg (by simp), h.l.kept hg (by simp), h.g.kept hg (by simp), h.x.kept hg (by simp), h.b.grown hg h.b.size (fun k e => by cases e), h.d⟩

theorem grown_box {w w1 : World} {b : Nat} (h : w.grownBy w1 none) (hb : w.heap.size ≤ b) (v : Value) : w.grownBy (w1.setCell ⟨b, 0, none⟩ v) none :=
  ⟨h.os, h.tape, h.output, Nat.le_trans h.size (by simp [World.setCell]), fun i hi hne => by
    rw [Below.heap_setCell _ _ _ _ (by show i ≠ b; omega)]; exact h.block i hi hne⟩
/-- What a box holds, as a number. -/
def cellI (W : World) (B : Nat) : Int := match W.cell? ⟨B, 0, none⟩ with | some v => intOf v | none => 0
theorem cellI_is {W : World} {B : Nat} {t : TypeId} {n : Int} (h : Boxed W B t (.int .i64 n)) : cellI W B = n := by unfold cellI; rw [h.cell]; rfl
theorem nP_iff {way g : Int} (hw : 1 ≤ way) (hg : 0 ≤ g) (j : Nat) : j < nP way g ↔ ((j : Int) + 1) * way ≤ g := by
  have h1 : 0 ≤ g / way := Int.ediv_nonneg hg (by omega)
  unfold nP
  rw [← Int.le_ediv_iff_mul_le (by omega : 0 < way)]
  omega
theorem nP_zero {way : Int} : nP way 0 = 0 := by unfold nP; simp
theorem nP_up {way g h : Int} (hw : 1 ≤ way) (hg : 0 ≤ g) (hh : g ≤ h) : nP way g ≤ nP way h := by
  rcases Nat.lt_or_ge (nP way h) (nP way g) with q | q
  · have := (nP_iff hw hg _).1 q
    have := (nP_iff hw (by omega) (nP way h)).2 (Int.le_trans this hh)
    omega
  · exact q
/-- The next split's way. -/
def nxW (way : Int) (m : Nat) : Int := ((m : Int) + 1) * way
theorem nxW_bd {way : Int} (h0 : 1 ≤ way) (h1 : way ≤ 1000000000) {m : Nat} (hm : m ≤ 10000) : 1 ≤ nxW way m ∧ nxW way m ≤ 10001000000000 := by
  unfold nxW
  have a : (1 : Int) * 1 ≤ ((m : Int) + 1) * way := Int.mul_le_mul (by omega) h0 (by omega) (by omega)
  have b : ((m : Int) + 1) * way ≤ 10001 * 1000000000 := Int.mul_le_mul (by omega) h1 (by omega) (by omega)
  omega
theorem nxW_succ (way : Int) (m : Nat) : nxW way (m + 1) = nxW way m + way := by
  unfold nxW; push_cast; rw [Int.add_mul _ 1, Int.one_mul]
theorem own_slice {w : World} {base : Nat} {e : TypeId} {size n : Nat} {v : Value} {xs : List Value} (h : w.ownsRow base e size v n xs) : ∃ ao cap, v = .slice ao n cap := by
  rcases h.2 with ⟨hv, h0⟩ | ⟨g, cap, cur, rfl, _⟩
  · exact ⟨none, 0, by rw [hv, h0]⟩
  · exact ⟨_, _, rfl⟩
theorem step_cells {W : World} {ss : List Smp} {k Bx : Nat} {t : TypeId} (h : W.heap[Bx]? = some (.cells (stepC ss k) t (0, 0))) (i : Nat) (v : Value) (hi : (stepC ss k)[i]? = some v) : W.cell? ⟨Bx, i, none⟩ = some v := by
  simp [World.cell?, h, hi]
end Go.Proofs.Ytgkhhfojioepgaa
