/- The contracts of the ratios of both sides, in a seat without races and tests. -/
import Derived.Test.YteaifonpkdjkcaaFRStep
import Derived.Test.YteaifonpkdjkcaaEChk
import Derived.Test.YteaifonpkdjkcaaFRow
import Derived.Deep.RegionWith
import Derived.BigQuiet
namespace Go.Proofs.Yteaifonpkdjkcaa
open Go.RowKit
set_option linter.unusedSimpArgs false
set_option linter.unusedVariables false

/-- The greatest number by which both can be divided. -/
def gcdI (a b : Int) : Nat := Nat.gcd a.natAbs b.natAbs
theorem gcd_next (x y : Nat) : Nat.gcd y (x % y) = Nat.gcd x y := by
  rw [Nat.gcd_comm x y, Nat.gcd_rec y x, Nat.gcd_comm]


set_option maxHeartbeats 1600000 in
theorem common_is (a b : Nat) (ha : (a : Int) ≤ 9000000000000000000) (hb : (b : Int) ≤ 9000000000000000000) (w : World) {G : Nat} (hG : Hid (Nat.gcd a b = G)) :
    Calls Try.prog 174 #[.int .i64 a, .int .i64 b] w fun e w' => e = .returned (.int .i64 G) ∧ w.grownBy w' none := by
  go_enter Try.func174, Try.ntmps174
  go_wp2
  go_loopw [0, 1] (fun av bv wr => ∃ x y : Nat, av = .int .i64 x ∧ bv = .int .i64 y ∧ (x : Int) ≤ 9000000000000000000 ∧ (y : Int) ≤ 9000000000000000000 ∧ Hid (Nat.gcd x y = G) ∧ Hid (w.grownBy wr none))
    (fun _ bv _ => (intOf bv).toNat)
  case atStart => exact ⟨a, b, rfl, rfl, ha, hb, hG.out, grown_refl _ _⟩
  case round =>
    obtain ⟨x, y, rfl, rfl, hx, hy, hg, hw⟩ := hrel
    by_cases hp : 0 < (y : Int)
    · obtain ⟨z, hz⟩ : ∃ z, x % y = z := ⟨_, rfl⟩
      have hzl : z < y := by rw [← hz]; exact Nat.mod_lt _ (by omega)
      have hz1 : (x : Int) % (y : Int) = (z : Int) := by rw [← hz]; exact (Int.natCast_emod x y).symm
      have hz2 : (x : Int).tmod (y : Int) = (z : Int) := by rw [Int.tmod_eq_emod_of_nonneg (by omega)]; exact hz1
      have HG2 : Hid (Nat.gcd y z = G) := by show _ = _; rw [← hz, gcd_next]; exact hg.out
      have ne0 : ¬ (y : Int) = 0 := by omega
      have ne1 : ((y : Int) == 0) = false := by rw [beq_eq_false_iff_ne]; omega
      clear hz
      go_wp2_with fail
      go_quiet (fail)
      go_wp2_with fail
      go_roundw
      case rel => exact ⟨y, z, rfl, rfl, hy, by omega, HG2.out, grown_trans hw.out (grown_drewN _ _ _)⟩
      case measure => simp [intOf]; omega
    · have hy0 : y = 0 := by omega
      subst hy0
      have hgx : x = G := by have := hg.out; rw [Nat.gcd_zero_right] at this; exact this
      subst hgx
      clear hp
      go_wp2_with fail
      go_ret
      exact ⟨rfl, hw.out⟩

/-- A ratio in a block of its own. -/
structure RBox (w : World) (B : Nat) (a b : Int) : Prop where
  h : w.heap[B]? = some (.cells #[.int .i64 a, .int .i64 b] 111 (0, 0))
section
variable {w : World} {B : Nat} {a b : Int}
theorem RBox.c0 (r : RBox w B a b) : w.cell? ⟨B, 0, none⟩ = some (.int .i64 a) := by simp [World.cell?, r.h]
theorem RBox.c1 (r : RBox w B a b) : w.cell? ⟨B, 1, none⟩ = some (.int .i64 b) := by simp [World.cell?, r.h]
theorem RBox.f (r : RBox w B a b) (i : Nat) : w.frozen? ⟨B, i, none⟩ = false := by simp [World.frozen?, r.h]
theorem RBox.lt (r : RBox w B a b) : B < w.heap.size := (Array.getElem?_eq_some_iff.1 r.h).1
theorem RBox.grown (r : RBox w B a b) {w' : World} (hg : w.grownBy w' none) : RBox w' B a b := ⟨(hg.block B r.lt (by simp)).trans r.h⟩
theorem RBox.set (r : RBox w B a b) (x y : Int) : RBox ((w.setCell ⟨B, 0, none⟩ (.int .i64 x)).setCell ⟨B, 1, none⟩ (.int .i64 y)) B x y := by
  constructor
  simp [World.setCell, Array.getElem?_modify, r.h]
theorem RBox.far (r : RBox w B a b) {B' : Nat} (ne : B ≠ B') (i : Nat) (v : Value) : RBox (w.setCell ⟨B', i, none⟩ v) B a b := by
  constructor
  show (w.setCell ⟨B', i, none⟩ v).heap[B]? = _
  rw [Below.heap_setCell _ _ _ _ ne]; exact r.h
theorem RBox.new (w : World) (a b : Int) : RBox (w.alloc (.cells #[.int .i64 a, .int .i64 b] 111)) w.heap.size a b := ⟨heap_alloc_new w _⟩
end
theorem gcdI_pos {num den : Int} (hd : 1 ≤ den) : 1 ≤ gcdI num den := by
  unfold gcdI
  exact Nat.gcd_pos_of_pos_right _ (by omega)


set_option maxHeartbeats 1600000 in
theorem ratioOf_is (num den : Int) (h0 : -9000000000000000000 ≤ num) (h1 : num ≤ 9000000000000000000) (d0 : 1 ≤ den) (d1 : den ≤ 9000000000000000000) (w : World) {p q : Int} (hp : Hid (num.tdiv (gcdI num den) = p)) (hq : Hid (den.tdiv (gcdI num den) = q)) :
    Calls Try.prog 139 #[.int .i64 num, .int .i64 den] w fun e w' => e = .returned (.agg #[.int .i64 p, .int .i64 q]) ∧ w.grownBy w' none := by
  have hG1 := gcdI_pos (num := num) d0
  obtain ⟨A, hA⟩ : ∃ A, num.natAbs = A := ⟨_, rfl⟩
  obtain ⟨B, rfl⟩ : ∃ B : Nat, den = (B : Int) := ⟨den.toNat, by omega⟩
  obtain ⟨G, hG⟩ : ∃ G, gcdI num B = G := ⟨_, rfl⟩
  have hGG := hG
  unfold gcdI at hGG
  rw [hA, Int.natAbs_natCast] at hGG
  have HG := Lib.hid hGG
  have hmx : max num (-num) = (A : Int) := by omega
  have hp' := hp.out; have hq' := hq.out
  rw [hG] at hp' hq' hG1
  have hAl : (A : Int) ≤ 9000000000000000000 := by omega
  have bp := tdiv_bds num (G : Int)
  have bq := tdiv_bds (B : Int) (G : Int)
  rw [hp'] at bp; rw [hq'] at bq
  have rp : IntKind.i64.wrap (num.tdiv (G : Int)) = p := by rw [hp']; exact IntWalk.i64_in _ (by omega)
  have rq : IntKind.i64.wrap ((B : Int).tdiv (G : Int)) = q := by rw [hq']; exact IntWalk.i64_in _ (by omega)
  have rq2 : (B : Int) / (G : Int) = q := by rw [← hq', Int.tdiv_eq_ediv_of_nonneg (by omega)]
  have ne0 : ¬ (G : Int) = 0 := by omega
  have ne1 : ((G : Int) == 0) = false := by rw [beq_eq_false_iff_ne]; omega
  have nb0 : ¬ (B : Int) = 0 := by omega
  have hneg : IntKind.i64.wrap (-num) = -num := IntWalk.i64_in _ (by omega)
  clear hA hG hGG hp hq
  go_enter Try.func139, Try.ntmps139
  go_wp2_with fail
  refine (common_is A B hAl d1 _ HG).mono ?_; rintro e w1 ⟨rfl, hg1⟩
  have HB : Hid (RBox w1 w.heap.size 0 0) := (RBox.new w 0 0).grown hg1
  have HGW : Hid (w.grownBy w1 none) := grown_trans (World.grownBy_alloc _ _ _) hg1
  have c0 := HB.out.c0; have c1 := HB.out.c1; have f0 := HB.out.f 0; have f1 := HB.out.f 1
  clear hg1
  go_wp2_with fail
  go_region
  all_goals
    go_wp2_with fail
    have r2 := (HB.out.grown (grown_drewN w1 none 1)).set p q
    have r20 := r2.c0; have r21 := r2.c1
    refine bodyPost_ret (v := .agg #[.int .i64 p, .int .i64 q]) (by simp [results, Try.results139, go_sem, c0, c1, r20, r21]) rfl ⟨rfl, ?_⟩
    exact egrown_set (egrown_set (grown_trans HGW.out (grown_drewN _ _ 1)) (Nat.le_refl _) _ _) (Nat.le_refl _) _ _


set_option maxHeartbeats 1600000 in
theorem rratio_is (num den : Int) (h0 : -9000000000000000000 ≤ num) (h1 : num ≤ 9000000000000000000) (d0 : 1 ≤ den) (d1 : den ≤ 9000000000000000000) (w : World) {p q : Int} (hp : Hid (num.tdiv (gcdI num den) = p)) (hq : Hid (den.tdiv (gcdI num den) = q)) :
    Calls Try.prog 140 #[.int .i64 num, .int .i64 den] w fun e w' => e = .returned (.agg #[.int .i64 p, .int .i64 q]) ∧ w.grownBy w' none := by
  have hG1 := gcdI_pos (num := num) d0
  obtain ⟨A, hA⟩ : ∃ A, num.natAbs = A := ⟨_, rfl⟩
  obtain ⟨B, rfl⟩ : ∃ B : Nat, den = (B : Int) := ⟨den.toNat, by omega⟩
  obtain ⟨G, hG⟩ : ∃ G, gcdI num B = G := ⟨_, rfl⟩
  have hGG := hG
  unfold gcdI at hGG
  rw [hA, Int.natAbs_natCast] at hGG
  have HG : Hid (Nat.gcd A B = G) := hGG
  have hmx : max num (-num) = (A : Int) := by omega
  have hp' := hp.out; have hq' := hq.out
  rw [hG] at hp' hq' hG1
  have hAl : (A : Int) ≤ 9000000000000000000 := by omega
  have bp := tdiv_bds num (G : Int)
  have bq := tdiv_bds (B : Int) (G : Int)
  rw [hp'] at bp; rw [hq'] at bq
  have rp : IntKind.i64.wrap (num.tdiv (G : Int)) = p := by rw [hp']; exact IntWalk.i64_in _ (by omega)
  have rq : IntKind.i64.wrap ((B : Int).tdiv (G : Int)) = q := by rw [hq']; exact IntWalk.i64_in _ (by omega)
  have rq2 : (B : Int) / (G : Int) = q := by rw [← hq', Int.tdiv_eq_ediv_of_nonneg (by omega)]
  have ne0 : ¬ (G : Int) = 0 := by omega
  have ne1 : ((G : Int) == 0) = false := by rw [beq_eq_false_iff_ne]; omega
  have nb0 : ¬ (B : Int) < 0 := by omega
  have hneg : IntKind.i64.wrap (-num) = -num := IntWalk.i64_in _ (by omega)
  clear hA hG hGG hp hq
  go_enter Try.func140, Try.ntmps140
  go_wp2_with fail
  have HGW : Hid (w.grownBy (w.alloc (.cells #[.int .i64 0, .int .i64 0] 111)) none) := World.grownBy_alloc _ _ _
  go_loopw [5, 6] (fun av bv wr => ∃ x y : Nat, av = .int .i64 x ∧ bv = .int .i64 y ∧ (x : Int) ≤ 9000000000000000000 ∧ (y : Int) ≤ 9000000000000000000 ∧ Hid (Nat.gcd x y = G) ∧ Hid ((w.alloc (.cells #[.int .i64 0, .int .i64 0] 111)).grownBy wr none))
    (fun _ bv _ => (intOf bv).toNat)
  case atStart => exact ⟨A, B, rfl, rfl, hAl, d1, HG.out, grown_refl _ _⟩
  case round =>
    obtain ⟨x, y, rfl, rfl, hx, hy, hg, hw⟩ := hrel
    by_cases hpy : (y : Int) = 0
    · have hy0 : y = 0 := by omega
      subst hy0
      have hgx : x = G := by have := hg.out; rw [Nat.gcd_zero_right] at this; exact this
      subst hgx
      clear hpy
      have HB : Hid (RBox wr w.heap.size 0 0) := (RBox.new w 0 0).grown hw.out
      have HG2 : Hid (w.grownBy wr none) := grown_trans HGW.out hw.out
      have c0 := HB.out.c0; have c1 := HB.out.c1; have f0 := HB.out.f 0; have f1 := HB.out.f 1
      go_wp2_with fail
      go_region
      all_goals
        go_wp2_with fail
        have r2 := (HB.out.grown (grown_drewN wr none 1)).set p q
        have r20 := r2.c0; have r21 := r2.c1
        refine bodyPost_ret (v := .agg #[.int .i64 p, .int .i64 q]) (by simp [results, Try.results140, go_sem, c0, c1, r20, r21]) rfl ⟨rfl, ?_⟩
        exact egrown_set (egrown_set (grown_trans HG2.out (grown_drewN _ _ 1)) (Nat.le_refl _) _ _) (Nat.le_refl _) _ _
    · obtain ⟨z, hz⟩ : ∃ z, x % y = z := ⟨_, rfl⟩
      have hzl : z < y := by rw [← hz]; exact Nat.mod_lt _ (by omega)
      have hz1 : (x : Int) % (y : Int) = (z : Int) := by rw [← hz]; exact (Int.natCast_emod x y).symm
      have hz2 : (x : Int).tmod (y : Int) = (z : Int) := by rw [Int.tmod_eq_emod_of_nonneg (by omega)]; exact hz1
      have HG2 : Hid (Nat.gcd y z = G) := by show _ = _; rw [← hz, gcd_next]; exact hg.out
      have ny1 : ((y : Int) == 0) = false := by rw [beq_eq_false_iff_ne]; omega
      clear hz
      go_wp2_with fail
      go_quiet (fail)
      go_wp2_with fail
      go_roundw
      case rel => exact ⟨y, z, rfl, rfl, hy, by omega, HG2.out, grown_trans hw.out (grown_drewN _ _ _)⟩
      case measure => simp [intOf]; omega

theorem ratioOf_zero (num : Int) (w : World) : Calls Try.prog 139 #[.int .i64 num, .int .i64 0] w fun e w' => e = .returned (.agg #[.int .i64 0, .int .i64 0]) ∧ w.grownBy w' none := by
  have HB : Hid (RBox (w.alloc (.cells #[.int .i64 0, .int .i64 0] 111)) w.heap.size 0 0) := RBox.new w 0 0
  have HG : Hid (w.grownBy (w.alloc (.cells #[.int .i64 0, .int .i64 0] 111)) none) := World.grownBy_alloc _ _ _
  have c0 := HB.out.c0; have c1 := HB.out.c1; have f0 := HB.out.f 0; have f1 := HB.out.f 1
  go_enter Try.func139, Try.ntmps139
  go_wp2_with fail
  refine bodyPost_ret (v := .agg #[.int .i64 0, .int .i64 0]) (by simp [results, Try.results139, go_sem, c0, c1]) rfl ⟨rfl, ?_⟩
  first | exact HG.out | exact egrown_set (egrown_set HG.out (Nat.le_refl _) _ _) (Nat.le_refl _) _ _
end Go.Proofs.Yteaifonpkdjkcaa
