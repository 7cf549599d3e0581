/- Join, where it fails. -/
import Derived.Test.YtgkhhfojioepgaaTJoinB
import Derived.Test.YtgkhhfojioepgaaTTagS
import Derived.Test.YtgkhhfojioepgaaTChkd
import Derived.Test.YtgkhhfojioepgaaTMove
import Derived.Deep.RegionHeld3
import Derived.BigQuiet
namespace Go.Proofs.Ytgkhhfojioepgaa
open Go.RowKit
set_option linter.unusedSimpArgs false
set_option linter.unusedVariables false

attribute [local go_sem] Oper.semAt_some

/-- Six cells of one block are set. -/
theorem set6_grown (W : World) (B : Nat) (v0 v1 v2 v3 v4 v5 : Value) : W.grownBy ((((((W.setCell ⟨B, 0, none⟩ v0).setCell ⟨B, 1, none⟩ v1).setCell ⟨B, 2, none⟩ v2).setCell ⟨B, 3, none⟩ v3).setCell ⟨B, 4, none⟩ v4).setCell ⟨B, 5, none⟩ v5) (some B) :=
  grown_trans (grown_trans (grown_trans (grown_trans (grown_trans (setcR_grown W B 0 v0) (setcR_grown _ B 1 v1)) (setcR_grown _ B 2 v2)) (setcR_grown _ B 3 v3)) (setcR_grown _ B 4 v4)) (setcR_grown _ B 5 v5)
theorem own_keptB {w w' : World} {base e s n P : Nat} {v : Value} {xs : List Value} (h : w.ownsRow base e s v n xs) (g : w.grownBy w' (some P)) (hP : ∀ r, v.ownBlock = some r → r ≠ P) : w'.ownsRow base e s v n xs := by
  refine h.kept g ?_
  cases hv : v.ownBlock with
  | none => exact .inl rfl
  | some r => exact .inr (fun e => by injection e with e; exact hP r hv e)
theorem own_keptO {w w' : World} {base e s n : Nat} {v v2 : Value} {xs : List Value} (h : w.ownsRow base e s v n xs) (g : w.grownBy w' v2.ownBlock) (hP : ∀ r r2, v.ownBlock = some r → v2.ownBlock = some r2 → r ≠ r2) : w'.ownsRow base e s v n xs := by
  refine h.kept g ?_
  cases hv : v.ownBlock with
  | none => exact .inl rfl
  | some r => exact .inr (fun e => hP r r hv e.symm rfl)
/-- Where slices lie apart, their blocks differ. -/
theorem blk_ne {a1 a2 : Option Addr} {n1 c1 n2 c2 : Nat} (h : ∀ p q, a1 = some p → a2 = some q → p.block ≠ q.block) : ∀ r1 r2, (Value.slice a1 n1 c1).ownBlock = some r1 → (Value.slice a2 n2 c2).ownBlock = some r2 → r1 ≠ r2 := fun r1 r2 e1 e2 => by
  cases a1 with
  | none => cases e1
  | some p => cases a2 with
    | none => cases e2
    | some q => cases e1; cases e2; exact h p q rfl rfl
theorem blk_far {a1 : Option Addr} {n1 c1 K : Nat} (h : ∀ p, a1 = some p → K ≤ p.block) : ∀ r, (Value.slice a1 n1 c1).ownBlock = some r → K ≤ r := fun r e => by
  cases a1 with
  | none => cases e
  | some p => cases e; exact h p rfl

set_option maxRecDepth 100000 in
set_option maxHeartbeats 3200000 in
theorem Join_e1 (a b : Act) (w : World) (ha : ActAt w a) (hb : ActAt w b) {ce : Int} (HCE : Hid (chkE a = ce)) (hne : (ce != 0) = true) :
    Calls Try.prog 32 #[a.val, b.val] w fun e w' => (∃ v, e = .returned (.tuple #[v, .int .i64 ce]) ∧ ActIs w' v act0) ∧ w.grownBy w' none := by
  have HA := Lib.hid ha; have HB := Lib.hid hb
  clear ha hb
  obtain ⟨nm, sp, st, so, sc, ss, lo, lc, ls, to_, tc, ts⟩ := a
  obtain ⟨nm2, sp2, st2, so2, sc2, ss2, lo2, lc2, ls2, to2, tc2, ts2⟩ := b
  simp only [Act.val] at *
  have M0 : Hid (JnB w #[.string nm, .int .i64 sp, .int .i64 st, .slice so ss.length sc, .slice lo ls.length lc, .slice to_ ts.length tc] #[.string nm2, .int .i64 sp2, .int .i64 st2, .slice so2 ss2.length sc2, .slice lo2 ls2.length lc2, .slice to2 ts2.length tc2] #[.string ⟨#[]⟩, .int .i64 0, .int .i64 0, .slice none 0 0, .slice none 0 0, .slice none 0 0] ((((w.alloc (.cells #[.string nm, .int .i64 sp, .int .i64 st, .slice so ss.length sc, .slice lo ls.length lc, .slice to_ ts.length tc] 26)).alloc (.cells #[.string nm2, .int .i64 sp2, .int .i64 st2, .slice so2 ss2.length sc2, .slice lo2 ls2.length lc2, .slice to2 ts2.length tc2] 26)).alloc (.cells #[.string ⟨#[]⟩, .int .i64 0, .int .i64 0, .slice none 0 0, .slice none 0 0, .slice none 0 0] 26)).alloc (.cells #[.string nm, .int .i64 sp, .int .i64 st, .slice so ss.length sc, .slice lo ls.length lc, .slice to_ ts.length tc, .string nm2, .int .i64 sp2, .int .i64 st2, .slice so2 ss2.length sc2, .slice lo2 ls2.length lc2, .slice to2 ts2.length tc2] 26))) := (JnB.new w #[.string nm, .int .i64 sp, .int .i64 st, .slice so ss.length sc, .slice lo ls.length lc, .slice to_ ts.length tc] #[.string nm2, .int .i64 sp2, .int .i64 st2, .slice so2 ss2.length sc2, .slice lo2 ls2.length lc2, .slice to2 ts2.length tc2] #[.string ⟨#[]⟩, .int .i64 0, .int .i64 0, .slice none 0 0, .slice none 0 0, .slice none 0 0]).grown (World.grownBy_alloc _ _ none)
  have L0 : Hid (((((w.alloc (.cells #[.string nm, .int .i64 sp, .int .i64 st, .slice so ss.length sc, .slice lo ls.length lc, .slice to_ ts.length tc] 26)).alloc (.cells #[.string nm2, .int .i64 sp2, .int .i64 st2, .slice so2 ss2.length sc2, .slice lo2 ls2.length lc2, .slice to2 ts2.length tc2] 26)).alloc (.cells #[.string ⟨#[]⟩, .int .i64 0, .int .i64 0, .slice none 0 0, .slice none 0 0, .slice none 0 0] 26)).alloc (.cells #[.string nm, .int .i64 sp, .int .i64 st, .slice so ss.length sc, .slice lo ls.length lc, .slice to_ ts.length tc, .string nm2, .int .i64 sp2, .int .i64 st2, .slice so2 ss2.length sc2, .slice lo2 ls2.length lc2, .slice to2 ts2.length tc2] 26)).heap[w.heap.size + 3]? = some (.cells #[.string nm, .int .i64 sp, .int .i64 st, .slice so ss.length sc, .slice lo ls.length lc, .slice to_ ts.length tc, .string nm2, .int .i64 sp2, .int .i64 st2, .slice so2 ss2.length sc2, .slice lo2 ls2.length lc2, .slice to2 ts2.length tc2] 26 (0, 0))) := by
    have q := heap_alloc_new (((w.alloc (.cells #[.string nm, .int .i64 sp, .int .i64 st, .slice so ss.length sc, .slice lo ls.length lc, .slice to_ ts.length tc] 26)).alloc (.cells #[.string nm2, .int .i64 sp2, .int .i64 st2, .slice so2 ss2.length sc2, .slice lo2 ls2.length lc2, .slice to2 ts2.length tc2] 26)).alloc (.cells #[.string ⟨#[]⟩, .int .i64 0, .int .i64 0, .slice none 0 0, .slice none 0 0, .slice none 0 0] 26)) (.cells #[.string nm, .int .i64 sp, .int .i64 st, .slice so ss.length sc, .slice lo ls.length lc, .slice to_ ts.length tc, .string nm2, .int .i64 sp2, .int .i64 st2, .slice so2 ss2.length sc2, .slice lo2 ls2.length lc2, .slice to2 ts2.length tc2] 26)
    rw [show ((((w.alloc (.cells #[.string nm, .int .i64 sp, .int .i64 st, .slice so ss.length sc, .slice lo ls.length lc, .slice to_ ts.length tc] 26)).alloc (.cells #[.string nm2, .int .i64 sp2, .int .i64 st2, .slice so2 ss2.length sc2, .slice lo2 ls2.length lc2, .slice to2 ts2.length tc2] 26)).alloc (.cells #[.string ⟨#[]⟩, .int .i64 0, .int .i64 0, .slice none 0 0, .slice none 0 0, .slice none 0 0] 26))).heap.size = w.heap.size + 3 from by first | (simp; done) | (simp; omega)] at q; exact q
  go_enter Try.func32, Try.ntmps32
  go_wp2_with fail
  go_loopw [15] (fun iv wr => (iv = .int .i64 0) ∧ Hid (JnB w #[.string nm, .int .i64 sp, .int .i64 st, .slice so ss.length sc, .slice lo ls.length lc, .slice to_ ts.length tc] #[.string nm2, .int .i64 sp2, .int .i64 st2, .slice so2 ss2.length sc2, .slice lo2 ls2.length lc2, .slice to2 ts2.length tc2] #[.string ⟨#[]⟩, .int .i64 0, .int .i64 0, .slice none 0 0, .slice none 0 0, .slice none 0 0] wr) ∧ Hid (wr.heap[w.heap.size + 3]? = some (.cells #[.string nm, .int .i64 sp, .int .i64 st, .slice so ss.length sc, .slice lo ls.length lc, .slice to_ ts.length tc, .string nm2, .int .i64 sp2, .int .i64 st2, .slice so2 ss2.length sc2, .slice lo2 ls2.length lc2, .slice to2 ts2.length tc2] 26 (0, 0))))
    (fun iv _ => 2 - (intOf iv).toNat)
  case atStart => exact ⟨rfl, M0, L0⟩
  case round =>
    clear M0 L0
    obtain ⟨hiv, hM, hL⟩ := hrel
    subst hiv
    have q0 := block_cell hL.out 0 _ rfl
    have q1 := block_cell hL.out 1 _ rfl
    have q2 := block_cell hL.out 2 _ rfl
    have q3 := block_cell hL.out 3 _ rfl
    have q4 := block_cell hL.out 4 _ rfl
    have q5 := block_cell hL.out 5 _ rfl
    go_wp2_with fail
    refine (check_any ⟨nm, sp, st, so, sc, ss, lo, lc, ls, to_, tc, ts⟩ _ (HA.out.grown (hM.out.grown (World.grownBy_alloc _ _ none)).g) HCE).mono ?_; rintro e w1 ⟨rfl, hg1⟩
    have M1 := Lib.hid ((hM.out.grown (World.grownBy_alloc _ _ none)).grown hg1)
    clear hM hL hg1 q0 q1 q2 q3 q4 q5
    have z0 := block_cell M1.out.z 0 _ rfl
    have zf0 := block_free (k := 0) M1.out.z
    have z1 := block_cell M1.out.z 1 _ rfl
    have zf1 := block_free (k := 1) M1.out.z
    have z2 := block_cell M1.out.z 2 _ rfl
    have zf2 := block_free (k := 2) M1.out.z
    have z3 := block_cell M1.out.z 3 _ rfl
    have zf3 := block_free (k := 3) M1.out.z
    have z4 := block_cell M1.out.z 4 _ rfl
    have zf4 := block_free (k := 4) M1.out.z
    have z5 := block_cell M1.out.z 5 _ rfl
    have zf5 := block_free (k := 5) M1.out.z
    go_wp2_with fail
    refine bodyPost_ret (v := .tuple #[.agg #[.string ⟨#[]⟩, .int .i64 0, .int .i64 0, .slice none 0 0, .slice none 0 0, .slice none 0 0], .int .i64 ce]) (by simp [results, Try.results32, go_sem, z0, z1, z2, z3, z4, z5]) rfl ⟨⟨_, rfl, act0_is _⟩, ((((((M1.out.setZ 0 _).setZ 1 _).setZ 2 _).setZ 3 _).setZ 4 _).setZ 5 _).g⟩

set_option maxRecDepth 100000 in
set_option maxHeartbeats 3200000 in
theorem Join_e2 (a b : Act) (w : World) (ha : ActAt w a) (hb : ActAt w b) {cf : Int} (HCE : Hid (chkE a = 0)) (HCF : Hid (chkE b = cf)) (hne : (cf != 0) = true) :
    Calls Try.prog 32 #[a.val, b.val] w fun e w' => (∃ v, e = .returned (.tuple #[v, .int .i64 cf]) ∧ ActIs w' v act0) ∧ w.grownBy w' none := by
  have HA := Lib.hid ha; have HB := Lib.hid hb
  clear ha hb
  obtain ⟨nm, sp, st, so, sc, ss, lo, lc, ls, to_, tc, ts⟩ := a
  obtain ⟨nm2, sp2, st2, so2, sc2, ss2, lo2, lc2, ls2, to2, tc2, ts2⟩ := b
  simp only [Act.val] at *
  have M0 : Hid (JnB w #[.string nm, .int .i64 sp, .int .i64 st, .slice so ss.length sc, .slice lo ls.length lc, .slice to_ ts.length tc] #[.string nm2, .int .i64 sp2, .int .i64 st2, .slice so2 ss2.length sc2, .slice lo2 ls2.length lc2, .slice to2 ts2.length tc2] #[.string ⟨#[]⟩, .int .i64 0, .int .i64 0, .slice none 0 0, .slice none 0 0, .slice none 0 0] ((((w.alloc (.cells #[.string nm, .int .i64 sp, .int .i64 st, .slice so ss.length sc, .slice lo ls.length lc, .slice to_ ts.length tc] 26)).alloc (.cells #[.string nm2, .int .i64 sp2, .int .i64 st2, .slice so2 ss2.length sc2, .slice lo2 ls2.length lc2, .slice to2 ts2.length tc2] 26)).alloc (.cells #[.string ⟨#[]⟩, .int .i64 0, .int .i64 0, .slice none 0 0, .slice none 0 0, .slice none 0 0] 26)).alloc (.cells #[.string nm, .int .i64 sp, .int .i64 st, .slice so ss.length sc, .slice lo ls.length lc, .slice to_ ts.length tc, .string nm2, .int .i64 sp2, .int .i64 st2, .slice so2 ss2.length sc2, .slice lo2 ls2.length lc2, .slice to2 ts2.length tc2] 26))) := (JnB.new w #[.string nm, .int .i64 sp, .int .i64 st, .slice so ss.length sc, .slice lo ls.length lc, .slice to_ ts.length tc] #[.string nm2, .int .i64 sp2, .int .i64 st2, .slice so2 ss2.length sc2, .slice lo2 ls2.length lc2, .slice to2 ts2.length tc2] #[.string ⟨#[]⟩, .int .i64 0, .int .i64 0, .slice none 0 0, .slice none 0 0, .slice none 0 0]).grown (World.grownBy_alloc _ _ none)
  have L0 : Hid (((((w.alloc (.cells #[.string nm, .int .i64 sp, .int .i64 st, .slice so ss.length sc, .slice lo ls.length lc, .slice to_ ts.length tc] 26)).alloc (.cells #[.string nm2, .int .i64 sp2, .int .i64 st2, .slice so2 ss2.length sc2, .slice lo2 ls2.length lc2, .slice to2 ts2.length tc2] 26)).alloc (.cells #[.string ⟨#[]⟩, .int .i64 0, .int .i64 0, .slice none 0 0, .slice none 0 0, .slice none 0 0] 26)).alloc (.cells #[.string nm, .int .i64 sp, .int .i64 st, .slice so ss.length sc, .slice lo ls.length lc, .slice to_ ts.length tc, .string nm2, .int .i64 sp2, .int .i64 st2, .slice so2 ss2.length sc2, .slice lo2 ls2.length lc2, .slice to2 ts2.length tc2] 26)).heap[w.heap.size + 3]? = some (.cells #[.string nm, .int .i64 sp, .int .i64 st, .slice so ss.length sc, .slice lo ls.length lc, .slice to_ ts.length tc, .string nm2, .int .i64 sp2, .int .i64 st2, .slice so2 ss2.length sc2, .slice lo2 ls2.length lc2, .slice to2 ts2.length tc2] 26 (0, 0))) := by
    have q := heap_alloc_new (((w.alloc (.cells #[.string nm, .int .i64 sp, .int .i64 st, .slice so ss.length sc, .slice lo ls.length lc, .slice to_ ts.length tc] 26)).alloc (.cells #[.string nm2, .int .i64 sp2, .int .i64 st2, .slice so2 ss2.length sc2, .slice lo2 ls2.length lc2, .slice to2 ts2.length tc2] 26)).alloc (.cells #[.string ⟨#[]⟩, .int .i64 0, .int .i64 0, .slice none 0 0, .slice none 0 0, .slice none 0 0] 26)) (.cells #[.string nm, .int .i64 sp, .int .i64 st, .slice so ss.length sc, .slice lo ls.length lc, .slice to_ ts.length tc, .string nm2, .int .i64 sp2, .int .i64 st2, .slice so2 ss2.length sc2, .slice lo2 ls2.length lc2, .slice to2 ts2.length tc2] 26)
    rw [show ((((w.alloc (.cells #[.string nm, .int .i64 sp, .int .i64 st, .slice so ss.length sc, .slice lo ls.length lc, .slice to_ ts.length tc] 26)).alloc (.cells #[.string nm2, .int .i64 sp2, .int .i64 st2, .slice so2 ss2.length sc2, .slice lo2 ls2.length lc2, .slice to2 ts2.length tc2] 26)).alloc (.cells #[.string ⟨#[]⟩, .int .i64 0, .int .i64 0, .slice none 0 0, .slice none 0 0, .slice none 0 0] 26))).heap.size = w.heap.size + 3 from by first | (simp; done) | (simp; omega)] at q; exact q
  go_enter Try.func32, Try.ntmps32
  go_wp2_with fail
  go_loopw [15] (fun iv wr => (iv = .int .i64 0 ∨ iv = .int .i64 1) ∧ Hid (JnB w #[.string nm, .int .i64 sp, .int .i64 st, .slice so ss.length sc, .slice lo ls.length lc, .slice to_ ts.length tc] #[.string nm2, .int .i64 sp2, .int .i64 st2, .slice so2 ss2.length sc2, .slice lo2 ls2.length lc2, .slice to2 ts2.length tc2] #[.string ⟨#[]⟩, .int .i64 0, .int .i64 0, .slice none 0 0, .slice none 0 0, .slice none 0 0] wr) ∧ Hid (wr.heap[w.heap.size + 3]? = some (.cells #[.string nm, .int .i64 sp, .int .i64 st, .slice so ss.length sc, .slice lo ls.length lc, .slice to_ ts.length tc, .string nm2, .int .i64 sp2, .int .i64 st2, .slice so2 ss2.length sc2, .slice lo2 ls2.length lc2, .slice to2 ts2.length tc2] 26 (0, 0))))
    (fun iv _ => 2 - (intOf iv).toNat)
  case atStart => exact ⟨Or.inl rfl, M0, L0⟩
  case round =>
    clear M0 L0
    obtain ⟨hiv, hM, hL⟩ := hrel
    rcases hiv with rfl | rfl
    · have q0 := block_cell hL.out 0 _ rfl
      have q1 := block_cell hL.out 1 _ rfl
      have q2 := block_cell hL.out 2 _ rfl
      have q3 := block_cell hL.out 3 _ rfl
      have q4 := block_cell hL.out 4 _ rfl
      have q5 := block_cell hL.out 5 _ rfl
      go_wp2_with fail
      refine (check_any ⟨nm, sp, st, so, sc, ss, lo, lc, ls, to_, tc, ts⟩ _ (HA.out.grown (hM.out.grown (World.grownBy_alloc _ _ none)).g) HCE).mono ?_; rintro e w1 ⟨rfl, hg1⟩
      have M1 := Lib.hid ((hM.out.grown (World.grownBy_alloc _ _ none)).grown hg1)
      have L1 := Lib.hid (block_at (block_at hL.out (World.grownBy_alloc _ _ none) (by simp)) hg1 (by simp))
      clear hM hL hg1 q0 q1 q2 q3 q4 q5
      go_wp2_with fail
      go_roundw
      case rel => exact ⟨Or.inr rfl, M1, L1⟩
      case measure => decide
    · have q6 := block_cell hL.out 6 _ rfl
      have q7 := block_cell hL.out 7 _ rfl
      have q8 := block_cell hL.out 8 _ rfl
      have q9 := block_cell hL.out 9 _ rfl
      have q10 := block_cell hL.out 10 _ rfl
      have q11 := block_cell hL.out 11 _ rfl
      go_wp2_with fail
      refine (check_any ⟨nm2, sp2, st2, so2, sc2, ss2, lo2, lc2, ls2, to2, tc2, ts2⟩ _ (HB.out.grown (hM.out.grown (World.grownBy_alloc _ _ none)).g) HCF).mono ?_; rintro e w1 ⟨rfl, hg1⟩
      have M1 := Lib.hid ((hM.out.grown (World.grownBy_alloc _ _ none)).grown hg1)
      clear hM hL hg1 q6 q7 q8 q9 q10 q11
      have z0 := block_cell M1.out.z 0 _ rfl
      have zf0 := block_free (k := 0) M1.out.z
      have z1 := block_cell M1.out.z 1 _ rfl
      have zf1 := block_free (k := 1) M1.out.z
      have z2 := block_cell M1.out.z 2 _ rfl
      have zf2 := block_free (k := 2) M1.out.z
      have z3 := block_cell M1.out.z 3 _ rfl
      have zf3 := block_free (k := 3) M1.out.z
      have z4 := block_cell M1.out.z 4 _ rfl
      have zf4 := block_free (k := 4) M1.out.z
      have z5 := block_cell M1.out.z 5 _ rfl
      have zf5 := block_free (k := 5) M1.out.z
      go_wp2_with fail
      refine bodyPost_ret (v := .tuple #[.agg #[.string ⟨#[]⟩, .int .i64 0, .int .i64 0, .slice none 0 0, .slice none 0 0, .slice none 0 0], .int .i64 cf]) (by simp [results, Try.results32, go_sem, z0, z1, z2, z3, z4, z5]) rfl ⟨⟨_, rfl, act0_is _⟩, ((((((M1.out.setZ 0 _).setZ 1 _).setZ 2 _).setZ 3 _).setZ 4 _).setZ 5 _).g⟩

set_option maxRecDepth 100000 in
set_option maxHeartbeats 3200000 in
theorem Join_e3 (a b : Act) (w : World) (ha : ActAt w a) (hb : ActAt w b) (HCE : Hid (chkE a = 0)) (HCF : Hid (chkE b = 0)) (hne : (a.sport != b.sport) = true) :
    Calls Try.prog 32 #[a.val, b.val] w fun e w' => (∃ v, e = .returned (.tuple #[v, .int .i64 7]) ∧ ActIs w' v act0) ∧ w.grownBy w' none := by
  have HA := Lib.hid ha; have HB := Lib.hid hb
  clear ha hb
  obtain ⟨nm, sp, st, so, sc, ss, lo, lc, ls, to_, tc, ts⟩ := a
  obtain ⟨nm2, sp2, st2, so2, sc2, ss2, lo2, lc2, ls2, to2, tc2, ts2⟩ := b
  simp only [Act.val] at *
  have M0 : Hid (JnB w #[.string nm, .int .i64 sp, .int .i64 st, .slice so ss.length sc, .slice lo ls.length lc, .slice to_ ts.length tc] #[.string nm2, .int .i64 sp2, .int .i64 st2, .slice so2 ss2.length sc2, .slice lo2 ls2.length lc2, .slice to2 ts2.length tc2] #[.string ⟨#[]⟩, .int .i64 0, .int .i64 0, .slice none 0 0, .slice none 0 0, .slice none 0 0] ((((w.alloc (.cells #[.string nm, .int .i64 sp, .int .i64 st, .slice so ss.length sc, .slice lo ls.length lc, .slice to_ ts.length tc] 26)).alloc (.cells #[.string nm2, .int .i64 sp2, .int .i64 st2, .slice so2 ss2.length sc2, .slice lo2 ls2.length lc2, .slice to2 ts2.length tc2] 26)).alloc (.cells #[.string ⟨#[]⟩, .int .i64 0, .int .i64 0, .slice none 0 0, .slice none 0 0, .slice none 0 0] 26)).alloc (.cells #[.string nm, .int .i64 sp, .int .i64 st, .slice so ss.length sc, .slice lo ls.length lc, .slice to_ ts.length tc, .string nm2, .int .i64 sp2, .int .i64 st2, .slice so2 ss2.length sc2, .slice lo2 ls2.length lc2, .slice to2 ts2.length tc2] 26))) := (JnB.new w #[.string nm, .int .i64 sp, .int .i64 st, .slice so ss.length sc, .slice lo ls.length lc, .slice to_ ts.length tc] #[.string nm2, .int .i64 sp2, .int .i64 st2, .slice so2 ss2.length sc2, .slice lo2 ls2.length lc2, .slice to2 ts2.length tc2] #[.string ⟨#[]⟩, .int .i64 0, .int .i64 0, .slice none 0 0, .slice none 0 0, .slice none 0 0]).grown (World.grownBy_alloc _ _ none)
  have L0 : Hid (((((w.alloc (.cells #[.string nm, .int .i64 sp, .int .i64 st, .slice so ss.length sc, .slice lo ls.length lc, .slice to_ ts.length tc] 26)).alloc (.cells #[.string nm2, .int .i64 sp2, .int .i64 st2, .slice so2 ss2.length sc2, .slice lo2 ls2.length lc2, .slice to2 ts2.length tc2] 26)).alloc (.cells #[.string ⟨#[]⟩, .int .i64 0, .int .i64 0, .slice none 0 0, .slice none 0 0, .slice none 0 0] 26)).alloc (.cells #[.string nm, .int .i64 sp, .int .i64 st, .slice so ss.length sc, .slice lo ls.length lc, .slice to_ ts.length tc, .string nm2, .int .i64 sp2, .int .i64 st2, .slice so2 ss2.length sc2, .slice lo2 ls2.length lc2, .slice to2 ts2.length tc2] 26)).heap[w.heap.size + 3]? = some (.cells #[.string nm, .int .i64 sp, .int .i64 st, .slice so ss.length sc, .slice lo ls.length lc, .slice to_ ts.length tc, .string nm2, .int .i64 sp2, .int .i64 st2, .slice so2 ss2.length sc2, .slice lo2 ls2.length lc2, .slice to2 ts2.length tc2] 26 (0, 0))) := by
    have q := heap_alloc_new (((w.alloc (.cells #[.string nm, .int .i64 sp, .int .i64 st, .slice so ss.length sc, .slice lo ls.length lc, .slice to_ ts.length tc] 26)).alloc (.cells #[.string nm2, .int .i64 sp2, .int .i64 st2, .slice so2 ss2.length sc2, .slice lo2 ls2.length lc2, .slice to2 ts2.length tc2] 26)).alloc (.cells #[.string ⟨#[]⟩, .int .i64 0, .int .i64 0, .slice none 0 0, .slice none 0 0, .slice none 0 0] 26)) (.cells #[.string nm, .int .i64 sp, .int .i64 st, .slice so ss.length sc, .slice lo ls.length lc, .slice to_ ts.length tc, .string nm2, .int .i64 sp2, .int .i64 st2, .slice so2 ss2.length sc2, .slice lo2 ls2.length lc2, .slice to2 ts2.length tc2] 26)
    rw [show ((((w.alloc (.cells #[.string nm, .int .i64 sp, .int .i64 st, .slice so ss.length sc, .slice lo ls.length lc, .slice to_ ts.length tc] 26)).alloc (.cells #[.string nm2, .int .i64 sp2, .int .i64 st2, .slice so2 ss2.length sc2, .slice lo2 ls2.length lc2, .slice to2 ts2.length tc2] 26)).alloc (.cells #[.string ⟨#[]⟩, .int .i64 0, .int .i64 0, .slice none 0 0, .slice none 0 0, .slice none 0 0] 26))).heap.size = w.heap.size + 3 from by first | (simp; done) | (simp; omega)] at q; exact q
  go_enter Try.func32, Try.ntmps32
  go_wp2_with fail
  go_loopw [15] (fun iv wr => (iv = .int .i64 0 ∨ iv = .int .i64 1 ∨ iv = .int .i64 2) ∧ Hid (JnB w #[.string nm, .int .i64 sp, .int .i64 st, .slice so ss.length sc, .slice lo ls.length lc, .slice to_ ts.length tc] #[.string nm2, .int .i64 sp2, .int .i64 st2, .slice so2 ss2.length sc2, .slice lo2 ls2.length lc2, .slice to2 ts2.length tc2] #[.string ⟨#[]⟩, .int .i64 0, .int .i64 0, .slice none 0 0, .slice none 0 0, .slice none 0 0] wr) ∧ Hid (wr.heap[w.heap.size + 3]? = some (.cells #[.string nm, .int .i64 sp, .int .i64 st, .slice so ss.length sc, .slice lo ls.length lc, .slice to_ ts.length tc, .string nm2, .int .i64 sp2, .int .i64 st2, .slice so2 ss2.length sc2, .slice lo2 ls2.length lc2, .slice to2 ts2.length tc2] 26 (0, 0))))
    (fun iv _ => 2 - (intOf iv).toNat)
  case atStart => exact ⟨Or.inl rfl, M0, L0⟩
  case round =>
    clear M0 L0
    obtain ⟨hiv, hM, hL⟩ := hrel
    rcases hiv with rfl | rfl | rfl
    · have q0 := block_cell hL.out 0 _ rfl
      have q1 := block_cell hL.out 1 _ rfl
      have q2 := block_cell hL.out 2 _ rfl
      have q3 := block_cell hL.out 3 _ rfl
      have q4 := block_cell hL.out 4 _ rfl
      have q5 := block_cell hL.out 5 _ rfl
      go_wp2_with fail
      refine (check_any ⟨nm, sp, st, so, sc, ss, lo, lc, ls, to_, tc, ts⟩ _ (HA.out.grown (hM.out.grown (World.grownBy_alloc _ _ none)).g) HCE).mono ?_; rintro e w1 ⟨rfl, hg1⟩
      have M1 := Lib.hid ((hM.out.grown (World.grownBy_alloc _ _ none)).grown hg1)
      have L1 := Lib.hid (block_at (block_at hL.out (World.grownBy_alloc _ _ none) (by simp)) hg1 (by simp))
      clear hM hL hg1 q0 q1 q2 q3 q4 q5
      go_wp2_with fail
      go_roundw
      case rel => exact ⟨Or.inr (Or.inl rfl), M1, L1⟩
      case measure => decide
    · have q6 := block_cell hL.out 6 _ rfl
      have q7 := block_cell hL.out 7 _ rfl
      have q8 := block_cell hL.out 8 _ rfl
      have q9 := block_cell hL.out 9 _ rfl
      have q10 := block_cell hL.out 10 _ rfl
      have q11 := block_cell hL.out 11 _ rfl
      go_wp2_with fail
      refine (check_any ⟨nm2, sp2, st2, so2, sc2, ss2, lo2, lc2, ls2, to2, tc2, ts2⟩ _ (HB.out.grown (hM.out.grown (World.grownBy_alloc _ _ none)).g) HCF).mono ?_; rintro e w1 ⟨rfl, hg1⟩
      have M1 := Lib.hid ((hM.out.grown (World.grownBy_alloc _ _ none)).grown hg1)
      have L1 := Lib.hid (block_at (block_at hL.out (World.grownBy_alloc _ _ none) (by simp)) hg1 (by simp))
      clear hM hL hg1 q6 q7 q8 q9 q10 q11
      go_wp2_with fail
      go_roundw
      case rel => exact ⟨Or.inr (Or.inr rfl), M1, L1⟩
      case measure => decide
    · have u1 := block_cell hM.out.a 1 _ rfl
      have b1 := block_cell hM.out.b 1 _ rfl
      have z0 := block_cell hM.out.z 0 _ rfl
      have zf0 := block_free (k := 0) hM.out.z
      have z1 := block_cell hM.out.z 1 _ rfl
      have zf1 := block_free (k := 1) hM.out.z
      have z2 := block_cell hM.out.z 2 _ rfl
      have zf2 := block_free (k := 2) hM.out.z
      have z3 := block_cell hM.out.z 3 _ rfl
      have zf3 := block_free (k := 3) hM.out.z
      have z4 := block_cell hM.out.z 4 _ rfl
      have zf4 := block_free (k := 4) hM.out.z
      have z5 := block_cell hM.out.z 5 _ rfl
      have zf5 := block_free (k := 5) hM.out.z
      go_wp2_with fail
      refine bodyPost_ret (v := .tuple #[.agg #[.string ⟨#[]⟩, .int .i64 0, .int .i64 0, .slice none 0 0, .slice none 0 0, .slice none 0 0], .int .i64 7]) (by simp [results, Try.results32, go_sem, z0, z1, z2, z3, z4, z5]) rfl ⟨⟨_, rfl, act0_is _⟩, ((((((hM.out.setZ 0 _).setZ 1 _).setZ 2 _).setZ 3 _).setZ 4 _).setZ 5 _).g⟩
end Go.Proofs.Ytgkhhfojioepgaa

