/- The program's book and the reference's at once: what each call leaves of both. -/
import Derived.Test.YteaifonpkdjkcaaFBookI
namespace Go.Proofs.Yteaifonpkdjkcaa
open Go.RowKit Go.Maps
set_option linter.unusedSimpArgs false
set_option linter.unusedVariables false

/-- Both books, in a world that only grew since w0: the program's reads as Fp, the reference's as Fr. -/
structure TwoS (w0 W : World) (g rb bm n : Nat) (first f0 g0 : Int) (Fp Fr : Int → Int) : Prop where
  pb : ∃ L ao cap, PBk W w0.heap.size g first f0 g0 L ao cap ∧ (fun d => ldA L (d - first)) = Fp
  rb : RBk W w0.heap.size rb bm n first f0 g0 Fr
  fr : w0.grownBy W none

/-- A block of a call stays. -/
def KeepC (W W' : World) : Prop := ∀ (K : Nat) (c : Array Value) (fr : Nat × Nat), W.heap[K]? = some (.cells c 100 fr) → W'.heap[K]? = some (.cells c 100 fr)
theorem KeepC.of_trn {W W' : World} {B g : Nat} (t : Trn B g W W') {c : Array Value} {fr : Nat × Nat} (hg : W.heap[g]? = some (.cells c 169 fr)) : KeepC W W' := by
  intro K c' fr' hK
  exact t.cells _ _ hK (fun e => by subst e; rw [hK] at hg; injection hg with hg; injection hg with _ hg _; exact absurd hg (by decide)) (fun c2 fr2 e => by injection e with _ e _; exact absurd e (by decide))
theorem KeepC.of_map {W W' : World} {bm n : Nat} {D : DataW Unit} (hm : W.ownsMap Try.prog 3 (plainElem Try.prog 3) bm n D) (hg : W.grownBy W' (some bm)) : KeepC W W' := by
  intro K c' fr' hK
  obtain ⟨es, ck, hb, _⟩ := hm
  exact blk_at hK hg (fun e => by cases e; rw [hK] at hb; cases hb)

theorem grown_row {w w1 w2 : World} {row : Option Nat} (h : w.grownBy w1 none) (g : w1.grownBy w2 row) (hr : ∀ k, row = some k → w.heap.size ≤ k) : w.grownBy w2 none :=
  ⟨g.os.trans h.os, g.tape.trans h.tape, g.output.trans h.output, Nat.le_trans h.size g.size, fun k hk _ =>
    (g.block k (Nat.lt_of_lt_of_le hk h.size) (fun e => by have := hr k e.symm; omega)).trans (h.block k hk (by simp))⟩
section
variable {w0 W W' : World} {g rb bm n : Nat} {first f0 g0 : Int} {Fp Fr F : Int → Int}
theorem TwoS.grown (h : TwoS w0 W g rb bm n first f0 g0 Fp Fr) (hg : W.grownBy W' none) : TwoS w0 W' g rb bm n first f0 g0 Fp Fr := by
  obtain ⟨L, ao, cap, hp, he⟩ := h.pb
  exact ⟨⟨L, ao, cap, hp.grown hg, he⟩, h.rb.grown hg, grown_trans h.fr hg⟩
theorem TwoS.bd (h : TwoS w0 W g rb bm n first f0 g0 Fp Fr) : ∀ d, 0 ≤ Fp d ∧ Fp d ≤ 10000 := by
  obtain ⟨L, ao, cap, hp, rfl⟩ := h.pb
  exact fun d => ldA_bd hp.bd _

theorem two_add (h : TwoS w0 W g rb bm n first f0 g0 Fp Fr) (hf : 0 ≤ first ∧ first ≤ 999999) (day x : Int) {E : Int} (hE : Hid (addE first Fp day x = E)) :
    Calls Try.prog 67 #[.pointer (some ⟨g, 0, none⟩), .int .i64 day, .int .i64 x] W fun e w' => e = .returned (.int .i64 E) ∧ TwoS w0 w' g rb bm n first f0 g0 (updF Fp E day (Fp day + x)) Fr ∧ KeepC W w' := by
  obtain ⟨L, ao, cap, hp, rfl⟩ := h.pb
  refine (Add_is hp h.fr.size hf day x hE).mono ?_
  rintro e w' ⟨rfl, ⟨L', ao', cap', hp', hu⟩, t⟩
  exact ⟨rfl, ⟨⟨L', ao', cap', hp', funext hu⟩, h.rb.trn t hp.b, t.grown h.fr (Nat.le_refl _)⟩, KeepC.of_trn t hp.b⟩
theorem two_take (h : TwoS w0 W g rb bm n first f0 g0 Fp Fr) (hf : 0 ≤ first ∧ first ≤ 999999) (day x : Int) {E : Int} (hE : Hid (takeE first Fp day x = E)) :
    Calls Try.prog 69 #[.pointer (some ⟨g, 0, none⟩), .int .i64 day, .int .i64 x] W fun e w' => e = .returned (.int .i64 E) ∧ TwoS w0 w' g rb bm n first f0 g0 (updF Fp E day (Fp day - x)) Fr ∧ KeepC W w' := by
  obtain ⟨L, ao, cap, hp, rfl⟩ := h.pb
  refine (Take_is hp h.fr.size hf day x hE).mono ?_
  rintro e w' ⟨rfl, ⟨L', ao', cap', hp', hu⟩, t⟩
  exact ⟨rfl, ⟨⟨L', ao', cap', hp', funext hu⟩, h.rb.trn t hp.b, t.grown h.fr (Nat.le_refl _)⟩, KeepC.of_trn t hp.b⟩
theorem two_radd (h : TwoS w0 W g rb bm n first f0 g0 Fp Fr) (hf : 0 ≤ first ∧ first ≤ 999999) (hn : n < 9223372036854775807) (hF : ∀ d, 0 ≤ Fr d ∧ Fr d ≤ 10000) (day x : Int) {E : Int} (hE : Hid (addE first Fr day x = E)) :
    Calls Try.prog 68 #[.pointer (some ⟨rb, 0, none⟩), .int .i64 day, .int .i64 x] W fun e w' => e = .returned (.int .i64 E) ∧ (∃ n', n' ≤ n + 1 ∧ TwoS w0 w' g rb bm n' first f0 g0 Fp (updF Fr E day (Fr day + x))) ∧ KeepC W w' := by
  obtain ⟨L, ao, cap, hp, he⟩ := h.pb
  refine (rAdd_is h.rb hf hn hF day x hE).mono ?_
  rintro e w' ⟨rfl, ⟨n', hn', hr⟩, ⟨D, hD⟩, hg⟩
  exact ⟨rfl, ⟨n', hn', ⟨L, ao, cap, hp.keptM hD hg, he⟩, hr, grown_row h.fr hg (fun k e => by cases e; exact h.rb.ge2)⟩, KeepC.of_map hD hg⟩
theorem two_rtake (h : TwoS w0 W g rb bm n first f0 g0 Fp Fr) (hf : 0 ≤ first ∧ first ≤ 999999) (hn : n < 9223372036854775807) (hF : ∀ d, 0 ≤ Fr d ∧ Fr d ≤ 10000) (day x : Int) {E : Int} (hE : Hid (takeE first Fr day x = E)) :
    Calls Try.prog 70 #[.pointer (some ⟨rb, 0, none⟩), .int .i64 day, .int .i64 x] W fun e w' => e = .returned (.int .i64 E) ∧ (∃ n', n' ≤ n + 1 ∧ TwoS w0 w' g rb bm n' first f0 g0 Fp (updF Fr E day (Fr day - x))) ∧ KeepC W w' := by
  obtain ⟨L, ao, cap, hp, he⟩ := h.pb
  refine (rTake_is h.rb hf hn hF day x hE).mono ?_
  rintro e w' ⟨rfl, ⟨n', hn', hr⟩, ⟨D, hD⟩, hg⟩
  exact ⟨rfl, ⟨n', hn', ⟨L, ao, cap, hp.keptM hD hg, he⟩, hr, grown_row h.fr hg (fun k e => by cases e; exact h.rb.ge2)⟩, KeepC.of_map hD hg⟩

theorem two_on (h : TwoS w0 W g rb bm n first f0 g0 F F) (hf : 0 ≤ first ∧ first ≤ 999999) (hb1 : 0 ≤ f0 ∧ f0 ≤ 10000000) (hb2 : 0 ≤ g0 ∧ g0 ≤ 10000000) (day : Int) {x : StV} {E : Int} (hx : Hid (onV F first f0 g0 day = x)) (hE : Hid (onE first day = E)) :
    Calls Try.prog 71 #[.pointer (some ⟨g, 0, none⟩), .int .i64 day] W fun e w' => e = .returned (.tuple #[.agg #[.int .i64 x.d, .int .i64 x.l, .int .i64 x.f, .int .i64 x.g, .int .i64 x.m], .int .i64 E]) ∧ W.grownBy w' none ∧ TwoS w0 w' g rb bm n first f0 g0 F F := by
  obtain ⟨L, ao, cap, hp, he⟩ := h.pb
  exact (on_is hp he hf hb1 hb2 day hx hE).mono fun _ _ ⟨h1, h2⟩ => ⟨h1, h2, h.grown h2⟩
theorem two_ron (h : TwoS w0 W g rb bm n first f0 g0 F F) (hf : 0 ≤ first ∧ first ≤ 999999) (hb1 : 0 ≤ f0 ∧ f0 ≤ 10000000) (hb2 : 0 ≤ g0 ∧ g0 ≤ 10000000) (day : Int) {x : StV} {E : Int} (hx : Hid (onV F first f0 g0 day = x)) (hE : Hid (onE first day = E)) :
    Calls Try.prog 72 #[.pointer (some ⟨rb, 0, none⟩), .int .i64 day] W fun e w' => e = .returned (.tuple #[.agg #[.int .i64 x.d, .int .i64 x.l, .int .i64 x.f, .int .i64 x.g, .int .i64 x.m], .int .i64 E]) ∧ W.grownBy w' none ∧ TwoS w0 w' g rb bm n first f0 g0 F F :=
  (rOn_is h.rb h.bd hf hb1 hb2 day hx hE).mono fun _ _ ⟨h1, h2⟩ => ⟨h1, h2, h.grown h2⟩
theorem two_ratio (h : TwoS w0 W g rb bm n first f0 g0 F F) (hf : 0 ≤ first ∧ first ≤ 999999) (day : Int) {v : RatV} (hv : Hid (ratV F first day = v)) :
    Calls Try.prog 76 #[.pointer (some ⟨g, 0, none⟩), .int .i64 day] W fun e w' => e = .returned (.tuple #[.agg #[.int .i64 v.p, .int .i64 v.q], .bool v.ok, .int .i64 v.e]) ∧ W.grownBy w' none ∧ TwoS w0 w' g rb bm n first f0 g0 F F := by
  have hb := h.bd
  obtain ⟨L, ao, cap, hp, he⟩ := h.pb
  exact (ratio_is hp (fun d => (congrFun he d).symm) hf hb day hv).mono fun _ _ ⟨h1, h2⟩ => ⟨h1, h2, h.grown h2⟩
theorem two_rratio (h : TwoS w0 W g rb bm n first f0 g0 F F) (hf : 0 ≤ first ∧ first ≤ 999999) (day : Int) {v : RatV} (hv : Hid (ratV F first day = v)) :
    Calls Try.prog 77 #[.pointer (some ⟨rb, 0, none⟩), .int .i64 day] W fun e w' => e = .returned (.tuple #[.agg #[.int .i64 v.p, .int .i64 v.q], .bool v.ok, .int .i64 v.e]) ∧ W.grownBy w' none ∧ TwoS w0 w' g rb bm n first f0 g0 F F :=
  (rRatioB_is h.rb hf h.bd day hv).mono fun _ _ ⟨h1, h2⟩ => ⟨h1, h2, h.grown h2⟩
theorem two_between (h : TwoS w0 W g rb bm n first f0 g0 F F) (hf : 0 ≤ first ∧ first ≤ 999999) (hb1 : 0 ≤ f0 ∧ f0 ≤ 10000000) (hb2 : 0 ≤ g0 ∧ g0 ≤ 10000000) (a b : Int) {E : Int} {R : List StV} (hE : Hid (betE first a b = E)) (hR : betL F first f0 g0 a b E = R) :
    Calls Try.prog 73 #[.pointer (some ⟨g, 0, none⟩), .int .i64 a, .int .i64 b] W fun e w' => (∃ v, e = .returned (.tuple #[v, .int .i64 E]) ∧ w'.ownsRow W.heap.size 103 5 v R.length (stRw R)) ∧ W.grownBy w' none ∧ TwoS w0 w' g rb bm n first f0 g0 F F := by
  subst hR
  obtain ⟨L, ao, cap, hp, rfl⟩ := h.pb
  exact (between_is hp hf hb1 hb2 a b hE).mono fun _ _ ⟨h1, h2⟩ => ⟨h1, h2, h.grown h2⟩
theorem two_rbetween (h : TwoS w0 W g rb bm n first f0 g0 F F) (hf : 0 ≤ first ∧ first ≤ 999999) (hb1 : 0 ≤ f0 ∧ f0 ≤ 10000000) (hb2 : 0 ≤ g0 ∧ g0 ≤ 10000000) (a b : Int) {E : Int} {R : List StV} (hE : Hid (betE first a b = E)) (hR : betL F first f0 g0 a b E = R) :
    Calls Try.prog 74 #[.pointer (some ⟨rb, 0, none⟩), .int .i64 a, .int .i64 b] W fun e w' => (∃ v, e = .returned (.tuple #[v, .int .i64 E]) ∧ w'.ownsRow W.heap.size 103 5 v R.length (stRw R)) ∧ W.grownBy w' none ∧ TwoS w0 w' g rb bm n first f0 g0 F F := by
  subst hR
  exact (rbetween_is h.rb hf hb1 hb2 h.bd a b hE).mono fun _ _ ⟨h1, h2⟩ => ⟨h1, h2, h.grown h2⟩
/-- Both books are new. -/
theorem two_new {w w1 w2 : World} (h1 : PBk w1 w.heap.size g first f0 g0 [] none 0) (k1 : w.grownBy w1 none) (h2 : RBk w2 w1.heap.size rb bm 0 first f0 g0 (fun _ => 0)) (k2 : w1.grownBy w2 none) : TwoS w w2 g rb bm 0 first f0 g0 (fun _ => 0) (fun _ => 0) :=
  ⟨⟨[], none, 0, h1.grown k2, by funext d; simp [ldA]⟩, ⟨h2.r, h2.m, Nat.le_trans k1.size h2.ge1, Nat.le_trans k1.size h2.ge2⟩, grown_trans k1 k2⟩
end

end Go.Proofs.Yteaifonpkdjkcaa
