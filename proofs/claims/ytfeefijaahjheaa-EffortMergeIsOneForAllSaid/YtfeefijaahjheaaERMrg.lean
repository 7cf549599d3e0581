/- Two curves merged: the reference's. -/
import Derived.Test.YtfeefijaahjheaaERMrgR
import Derived.Test.YtfeefijaahjheaaEBts
import Derived.Deep.CutBlock
import Derived.Deep.DeepCutAuto
namespace Go.Proofs.Ytfeefijaahjheaa
open Go.RowKit
set_option linter.unusedSimpArgs false
set_option linter.unusedVariables false

/-- How many elements a slice has. -/
def lenV : Value → Nat
  | .slice _ n _ => n
  | _ => 0
theorem rows_tail {w : World} {g o : Nat} {x : BestV} {A : List BestV} (h : RowsAt bestCs 4 w (some ⟨g, o, none⟩) (x :: A)) : RowsAt bestCs 4 w (some ⟨g, o + 4, none⟩) A :=
  ⟨fun e => (by cases e), fun a ha _ => (by cases ha; rfl), fun a ha i hi k v hv => by
    cases ha
    have q := h.cells _ rfl (i + 1) (by simp; omega) k v (by simpa using hv)
    have e : o + (i + 1) * 4 + k = o + 4 + i * 4 + k := by omega
    simp only at q ⊢
    rw [e] at q; exact q⟩
theorem rows_next {w : World} {g o c : Nat} {x : BestV} {A : List BestV} (h : RowsAt bestCs 4 w (some ⟨g, o, none⟩) (x :: A)) (hc : A.length + 1 ≤ c) : RowsAt bestCs 4 w (if c = 1 then some ⟨g, o, none⟩ else some ⟨g, o + 4, none⟩) A := by
  split
  · have e : A = [] := List.eq_nil_of_length_eq_zero (by omega)
    subst e
    exact rows_empty _
  · exact rows_tail h
/-- The two lists that are left, and what is merged. -/
structure MgS (w : World) (a1 b1 : Option Addr) (k1 k2 : Nat) (A B M R : List BestV) : Prop where
  ra : RowsAt bestCs 4 w a1 A
  rb : RowsAt bestCs 4 w b1 B
  la : A.length ≤ k1
  lb : B.length ≤ k2
  rem : Rem M A B
  eq : remM M A B = R
  len : M.length + A.length + B.length ≤ 200

set_option maxRecDepth 100000 in
set_option maxHeartbeats 12800000 in
theorem rmerge_is (ao bo : Option Addr) (ca cb : Nat) (a b : List BestV) (ha : (a.length : Int) ≤ 4398046511104) (hb : (b.length : Int) ≤ 4398046511104) (hca : a.length ≤ ca) (hcb : b.length ≤ cb) (w : World) (hs : RowsAt bestCs 4 w ao a) (ht : RowsAt bestCs 4 w bo b) {R : List BestV} {E : Int} (hE : Hid (mrgOut a b = (R, E))) :
    Calls Try.prog 28 #[.slice ao a.length ca, .slice bo b.length cb] w fun e w' => (∃ v, e = .returned (.tuple #[v, .int .i64 E]) ∧ w'.ownsRow w.heap.size 24 4 v R.length (R.flatMap bestCs)) ∧ w.grownBy w' none := by
  have HS := Lib.hid hs; have HT := Lib.hid ht
  have hv := hE.out
  unfold mrgOut at hv
  obtain ⟨x, hx⟩ : ∃ x, twoE a b = x := ⟨_, rfl⟩
  rw [hx] at hv
  have HX := Lib.hid hx
  clear hs ht hE
  by_cases h0 : x = 0
  · rw [if_pos h0] at hv
    subst h0
    obtain ⟨ca1, cb1⟩ := two_in hx
    obtain ⟨hst, heq⟩ := rem_start ca1.pw cb1.pw
    have HM0 : Hid (MgS w ao bo ca cb a b [] (mrgM a b)) := ⟨HS.out, HT.out, hca, hcb, hst, heq, by have := ca1.len; have := cb1.len; simp; omega⟩
    have HV := Lib.hid hv
    clear hx ca1 cb1 hv hst heq
    go_enter Try.func28, Try.ntmps28
    go_wp2_with fail
    refine (two_is ao bo ca cb a b ha hb w HS.out HT.out HX).mono ?_; rintro e w1 ⟨rfl, hg1⟩
    have HG1 := Lib.hid hg1
    clear hg1
    go_wp2_with fail
    clear ha hb hca hcb
    go_loopw [0, 1, 7] (fun s0 s1 ov wr => ∃ (A B M : List BestV) (a1 b1 : Option Addr) (k1 k2 : Nat) (v : Value), s0 = .slice a1 A.length k1 ∧ s1 = .slice b1 B.length k2 ∧ v = ov ∧ Hid (MgS w a1 b1 k1 k2 A B M (mrgM a b)) ∧ Hid (w.grownBy wr none) ∧ Hid (wr.ownsRow w.heap.size 24 4 v M.length (M.flatMap bestCs)))
      (fun s0 s1 _ _ => lenV s0 + lenV s1)
    case atStart => exact ⟨a, b, [], ao, bo, ca, cb, _, rfl, rfl, rfl, HM0.out, HG1.out, World.ownsRow_nil _ _ _ _⟩
    case round =>
      clear HM0
      obtain ⟨A, B, M, a1, b1, k1, k2, v, rfl, rfl, rfl, hm, hg, hown⟩ := hrel
      cases B with
      | nil =>
        cases A with
        | nil =>
          have hlen := hm.out.len
          have hM2 : M = mrgM a b := by have q := hm.out.eq; simpa [remM] using q
          have hv := HV.out
          rw [← hM2] at hv
          have HGF := Lib.hid hg.out
          have HOB := Lib.hid hown.out
          obtain ⟨n, hnn⟩ : ∃ n, M.length = n := ⟨_, rfl⟩
          have hvn : ∃ so cp, v = .slice so n cp := by
            rcases hown.out.2 with ⟨e, q⟩ | ⟨g, cap, _, e, _⟩
            · exact ⟨none, 0, by rw [e, ← hnn, q]⟩
            · exact ⟨_, _, by rw [e, hnn]⟩
          obtain ⟨so, cp, rfl⟩ := hvn
          have hn200 : n ≤ 200 := by rw [← hnn]; simpa using hlen
          rw [hnn] at hv
          clear hown hg hM2 hm hlen
          by_cases h100 : n ≤ 100
          · rw [if_pos h100] at hv
            simp only [Prod.mk.injEq] at hv
            obtain ⟨rfl, rfl⟩ := hv
            have hn1 : ¬ (100 : Int) < (n : Int) := by omega
            have HNN := Lib.hid hnn
            clear hnn h100
            go_wp2_with fail
            go_ret2
            exact ⟨⟨_, rfl, HOB.out⟩, HGF.out⟩
          · rw [if_neg h100] at hv
            simp only [Prod.mk.injEq] at hv
            obtain ⟨rfl, rfl⟩ := hv
            have hn1 : (100 : Int) < (n : Int) := by omega
            clear hnn h100
            go_wp2_with fail
            go_ret2
            exact ⟨⟨_, rfl, World.ownsRow_nil _ _ _ _⟩, HGF.out⟩
        | cons x A =>
          obtain ⟨g, o, rfl, hca⟩ := bst_at hm.out.ra (by simp)
          obtain ⟨c0, c1, c2, c3⟩ := hca 0 (by simp)
          simp only [Nat.zero_mul, Nat.add_zero, List.getElem_cons_zero] at c0 c1 c2 c3
          have HLa : Hid (g < w.heap.size) := World.block_lt_of_cell? w _ c0
          replace c0 := grown_cell hg.out c0; replace c1 := grown_cell hg.out c1; replace c2 := grown_cell hg.out c2; replace c3 := grown_cell hg.out c3
          clear hca
          have HRM : Hid (remM (M ++ [x]) A [] = mrgM a b ∧ Rem (M ++ [x]) A []) := by
            obtain ⟨q1, q2⟩ := rem_a hm.out.rem (by intro y hy; cases hy)
            exact ⟨q1.symm.trans hm.out.eq, q2⟩
          obtain ⟨sz, bs, ba, bf⟩ := x
          simp only at c0 c1 c2 c3
          obtain ⟨n, hna⟩ : ∃ n, A.length = n := ⟨_, rfl⟩
          have hsa : (⟨sz, bs, ba, bf⟩ :: A : List BestV).length = n + 1 := by simp [hna]
          have hla : n + 1 ≤ k1 := by have q := hm.out.la; rw [hsa] at q; exact q
          have HNa := Lib.hid hna
          rw [hsa]
          clear hsa hna
          have hza : ((n : Int) + 1 == 0) = false := by rw [beq_eq_false_iff_ne]; omega
          go_wp2_with fail
          go_quiet (fail)
          obtain ⟨W, hW⟩ : ∃ V, wr.drewN nq = V := ⟨_, rfl⟩
          have hgW : wr.grownBy W none := by rw [← hW]; exact grown_drewN _ none _
          rw [hW]
          replace c0 := grown_cell hgW c0; replace c1 := grown_cell hgW c1; replace c2 := grown_cell hgW c2; replace c3 := grown_cell hgW c3
          replace hg := Lib.hid (grown_trans hg.out hgW)
          replace hown := Lib.hid (kept_own hown.out hgW)
          clear hW hgW nq
          obtain ⟨nx, hnx⟩ : ∃ nx : Option Addr, (if k1 = 1 then some (⟨g, o, none⟩ : Addr) else some ⟨g, o + 4, none⟩) = nx := ⟨_, rfl⟩
          have HLEN := Lib.hid hm.out.len
          have HNX : Hid (MgS w nx b1 (k1 - 1) k2 A [] (M ++ [⟨sz, bs, ba, bf⟩]) (mrgM a b)) := ⟨by rw [← hnx]; exact rows_next hm.out.ra (by have := HNa.out; omega), hm.out.rb, by have := HNa.out; omega, hm.out.lb, HRM.out.2, HRM.out.1, by have := HLEN.out; simp only [List.length_cons, List.length_nil, List.length_append] at this ⊢; omega⟩
          have hM200 : M.length ≤ 200 := by have := HLEN.out; simp only [List.length_cons, List.length_nil] at this; omega
          have NB : Hid (some g ≠ v.ownBlock) := fun e => by have := (hown.out.lt g e.symm).1; have := HLa.out; omega
          clear hm HRM HLEN
          go_upto_region 11 with (fail)
          show (rgOf 11 Try.f28).wp _ _ _ _
          refine mrg_r11 _ _ _ _ _ _ _ _ _ _ _ _ _ _ _ _ _ _ _ _ _ _ _ _ _ _ _ _ _ _ _ _ _ _ _ _ _ _ _ _ _ _ _ _ _ _ _ _ _ _ _ _ _ _ _ _ _ _ _ _ _ _ _ _ _ _ _ _ _ _ _ _ _ _ _ _ _ _ _ _ _ _ _ _ _ _ _ _ _ _ _ _ _ _ _ W w.heap.size g o n k1 nx v M sz bs ba bf (Lib.hid c0) (Lib.hid c1) (Lib.hid c2) (Lib.hid c3) NB hla hnx hown hM200 hg.out.size (fun _ _ _ _ _ _ _ _ gg cap2 w4 ho4 hg4 => ?_)
          have HO4 := Lib.hid ho4
          have HG4 : Hid (w.grownBy w4 none) := grown_any hg.out hg4 (fun q e => (hown.out.lt q e).1)
          clear hza
          clear ho4 hg4 hown hg NB hnx c0 c1 c2 c3 hla hM200
          go_wp2_with fail
          go_roundw
          case rel => exact ⟨A, [], M ++ [(⟨sz, bs, ba, bf⟩ : BestV)], nx, b1, k1 - 1, k2, _, by rw [HNa.out], rfl, rfl, HNX.out, HG4.out, HO4.out⟩
          case measure => simp [lenV, HNa.out]
      | cons y B =>
        cases A with
        | nil =>
          obtain ⟨g2, o2, rfl, hcb⟩ := bst_at hm.out.rb (by simp)
          obtain ⟨d0, d1, d2, d3⟩ := hcb 0 (by simp)
          simp only [Nat.zero_mul, Nat.add_zero, List.getElem_cons_zero] at d0 d1 d2 d3
          have HLb : Hid (g2 < w.heap.size) := World.block_lt_of_cell? w _ d0
          replace d0 := grown_cell hg.out d0; replace d1 := grown_cell hg.out d1; replace d2 := grown_cell hg.out d2; replace d3 := grown_cell hg.out d3
          clear hcb
          have HRM : Hid (remM (M ++ [y]) [] B = mrgM a b ∧ Rem (M ++ [y]) [] B) := by
            obtain ⟨q1, q2⟩ := rem_b hm.out.rem (by intro y hy; cases hy)
            exact ⟨q1.symm.trans hm.out.eq, q2⟩
          obtain ⟨ys, yb, ya, yf⟩ := y
          simp only at d0 d1 d2 d3
          obtain ⟨n2, hnb⟩ : ∃ n, B.length = n := ⟨_, rfl⟩
          have hsb : (⟨ys, yb, ya, yf⟩ :: B : List BestV).length = n2 + 1 := by simp [hnb]
          have hlb : n2 + 1 ≤ k2 := by have q := hm.out.lb; rw [hsb] at q; exact q
          have HNb := Lib.hid hnb
          rw [hsb]
          clear hsb hnb
          have hzb : ((n2 : Int) + 1 == 0) = false := by rw [beq_eq_false_iff_ne]; omega
          go_wp2_with fail
          go_quiet (fail)
          obtain ⟨W, hW⟩ : ∃ V, wr.drewN nq = V := ⟨_, rfl⟩
          have hgW : wr.grownBy W none := by rw [← hW]; exact grown_drewN _ none _
          rw [hW]
          replace d0 := grown_cell hgW d0; replace d1 := grown_cell hgW d1; replace d2 := grown_cell hgW d2; replace d3 := grown_cell hgW d3
          replace hg := Lib.hid (grown_trans hg.out hgW)
          replace hown := Lib.hid (kept_own hown.out hgW)
          clear hW hgW nq
          go_wp2_with fail
          go_quiet (fail)
          obtain ⟨W2, hW⟩ : ∃ V, W.drewN nq = V := ⟨_, rfl⟩
          have hgW : W.grownBy W2 none := by rw [← hW]; exact grown_drewN _ none _
          rw [hW]
          replace d0 := grown_cell hgW d0; replace d1 := grown_cell hgW d1; replace d2 := grown_cell hgW d2; replace d3 := grown_cell hgW d3
          replace hg := Lib.hid (grown_trans hg.out hgW)
          replace hown := Lib.hid (kept_own hown.out hgW)
          clear hW hgW nq
          obtain ⟨nx, hnx⟩ : ∃ nx : Option Addr, (if k2 = 1 then some (⟨g2, o2, none⟩ : Addr) else some ⟨g2, o2 + 4, none⟩) = nx := ⟨_, rfl⟩
          have HLEN := Lib.hid hm.out.len
          have HNX : Hid (MgS w a1 nx k1 (k2 - 1) [] B (M ++ [⟨ys, yb, ya, yf⟩]) (mrgM a b)) := ⟨hm.out.ra, by rw [← hnx]; exact rows_next hm.out.rb (by have := HNb.out; omega), hm.out.la, by have := HNb.out; omega, HRM.out.2, HRM.out.1, by have := HLEN.out; simp only [List.length_cons, List.length_nil, List.length_append] at this ⊢; omega⟩
          have hM200 : M.length ≤ 200 := by have := HLEN.out; simp only [List.length_cons, List.length_nil] at this; omega
          have NB : Hid (some g2 ≠ v.ownBlock) := fun e => by have := (hown.out.lt g2 e.symm).1; have := HLb.out; omega
          clear hm HRM HLEN
          go_upto_region 13 with (fail)
          show (rgOf 13 Try.f28).wp _ _ _ _
          refine mrg_r13 _ _ _ _ _ _ _ _ _ _ _ _ _ _ _ _ _ _ _ _ _ _ _ _ _ _ _ _ _ _ _ _ _ _ _ _ _ _ _ _ _ _ _ _ _ _ _ _ _ _ _ _ _ _ _ _ _ _ _ _ _ _ _ _ _ _ _ _ _ _ _ _ _ _ _ _ _ _ _ _ _ _ _ _ _ _ _ _ _ _ _ _ _ _ _ W2 w.heap.size g2 o2 n2 k2 nx v M ys yb ya yf (Lib.hid d0) (Lib.hid d1) (Lib.hid d2) (Lib.hid d3) NB hlb hnx hown hM200 hg.out.size (fun _ _ _ _ _ _ _ _ gg cap2 w4 ho4 hg4 => ?_)
          have HO4 := Lib.hid ho4
          have HG4 : Hid (w.grownBy w4 none) := grown_any hg.out hg4 (fun q e => (hown.out.lt q e).1)
          clear hzb
          clear ho4 hg4 hown hg NB hnx d0 d1 d2 d3 hlb hM200
          go_wp2_with fail
          go_roundw
          case rel => exact ⟨[], B, M ++ [(⟨ys, yb, ya, yf⟩ : BestV)], a1, nx, k1, k2 - 1, _, rfl, by rw [HNb.out], rfl, HNX.out, HG4.out, HO4.out⟩
          case measure => simp [lenV, HNb.out]
        | cons x A =>
          obtain ⟨g, o, rfl, hca⟩ := bst_at hm.out.ra (by simp)
          obtain ⟨c0, c1, c2, c3⟩ := hca 0 (by simp)
          simp only [Nat.zero_mul, Nat.add_zero, List.getElem_cons_zero] at c0 c1 c2 c3
          have HLa : Hid (g < w.heap.size) := World.block_lt_of_cell? w _ c0
          replace c0 := grown_cell hg.out c0; replace c1 := grown_cell hg.out c1; replace c2 := grown_cell hg.out c2; replace c3 := grown_cell hg.out c3
          clear hca
          obtain ⟨g2, o2, rfl, hcb⟩ := bst_at hm.out.rb (by simp)
          obtain ⟨d0, d1, d2, d3⟩ := hcb 0 (by simp)
          simp only [Nat.zero_mul, Nat.add_zero, List.getElem_cons_zero] at d0 d1 d2 d3
          have HLb : Hid (g2 < w.heap.size) := World.block_lt_of_cell? w _ d0
          replace d0 := grown_cell hg.out d0; replace d1 := grown_cell hg.out d1; replace d2 := grown_cell hg.out d2; replace d3 := grown_cell hg.out d3
          clear hcb
          by_cases hlt : x.sz < y.sz
          · have HRM : Hid (remM (M ++ [x]) A (y :: B) = mrgM a b ∧ Rem (M ++ [x]) A (y :: B)) := by
              obtain ⟨q1, q2⟩ := rem_a hm.out.rem (by intro z hz; cases hz; exact hlt)
              exact ⟨q1.symm.trans hm.out.eq, q2⟩
            obtain ⟨sz, bs, ba, bf⟩ := x
            simp only at c0 c1 c2 c3
            obtain ⟨n, hna⟩ : ∃ n, A.length = n := ⟨_, rfl⟩
            have hsa : (⟨sz, bs, ba, bf⟩ :: A : List BestV).length = n + 1 := by simp [hna]
            have hla : n + 1 ≤ k1 := by have q := hm.out.la; rw [hsa] at q; exact q
            have HNa := Lib.hid hna
            rw [hsa]
            clear hsa hna
            have hza : ((n : Int) + 1 == 0) = false := by rw [beq_eq_false_iff_ne]; omega
            obtain ⟨ys, yb, ya, yf⟩ := y
            simp only at d0 d1 d2 d3
            obtain ⟨n2, hnb⟩ : ∃ n, B.length = n := ⟨_, rfl⟩
            have hsb : (⟨ys, yb, ya, yf⟩ :: B : List BestV).length = n2 + 1 := by simp [hnb]
            have hlb : n2 + 1 ≤ k2 := by have q := hm.out.lb; rw [hsb] at q; exact q
            have HNb := Lib.hid hnb
            rw [hsb]
            clear hsb hnb
            have hzb : ((n2 : Int) + 1 == 0) = false := by rw [beq_eq_false_iff_ne]; omega
            simp only at hlt
            have dlt : decide (sz < ys) = true := by simpa using hlt
            go_wp2_with fail
            go_quiet (fail)
            obtain ⟨W, hW⟩ : ∃ V, wr.drewN nq = V := ⟨_, rfl⟩
            have hgW : wr.grownBy W none := by rw [← hW]; exact grown_drewN _ none _
            rw [hW]
            replace c0 := grown_cell hgW c0; replace c1 := grown_cell hgW c1; replace c2 := grown_cell hgW c2; replace c3 := grown_cell hgW c3
            replace d0 := grown_cell hgW d0; replace d1 := grown_cell hgW d1; replace d2 := grown_cell hgW d2; replace d3 := grown_cell hgW d3
            replace hg := Lib.hid (grown_trans hg.out hgW)
            replace hown := Lib.hid (kept_own hown.out hgW)
            clear hW hgW nq
            obtain ⟨nx, hnx⟩ : ∃ nx : Option Addr, (if k1 = 1 then some (⟨g, o, none⟩ : Addr) else some ⟨g, o + 4, none⟩) = nx := ⟨_, rfl⟩
            have HLEN := Lib.hid hm.out.len
            have HNX : Hid (MgS w nx (some ⟨g2, o2, none⟩) (k1 - 1) k2 A (⟨ys, yb, ya, yf⟩ :: B) (M ++ [⟨sz, bs, ba, bf⟩]) (mrgM a b)) := ⟨by rw [← hnx]; exact rows_next hm.out.ra (by have := HNa.out; omega), hm.out.rb, by have := HNa.out; omega, hm.out.lb, HRM.out.2, HRM.out.1, by have := HLEN.out; simp only [List.length_cons, List.length_nil, List.length_append] at this ⊢; omega⟩
            have hM200 : M.length ≤ 200 := by have := HLEN.out; simp only [List.length_cons, List.length_nil] at this; omega
            have NB : Hid (some g ≠ v.ownBlock) := fun e => by have := (hown.out.lt g e.symm).1; have := HLa.out; omega
            clear hm HRM HLEN
            go_upto_region 11 with (fail)
            show (rgOf 11 Try.f28).wp _ _ _ _
            refine mrg_r11 _ _ _ _ _ _ _ _ _ _ _ _ _ _ _ _ _ _ _ _ _ _ _ _ _ _ _ _ _ _ _ _ _ _ _ _ _ _ _ _ _ _ _ _ _ _ _ _ _ _ _ _ _ _ _ _ _ _ _ _ _ _ _ _ _ _ _ _ _ _ _ _ _ _ _ _ _ _ _ _ _ _ _ _ _ _ _ _ _ _ _ _ _ _ _ W w.heap.size g o n k1 nx v M sz bs ba bf (Lib.hid c0) (Lib.hid c1) (Lib.hid c2) (Lib.hid c3) NB hla hnx hown hM200 hg.out.size (fun _ _ _ _ _ _ _ _ gg cap2 w4 ho4 hg4 => ?_)
            have HO4 := Lib.hid ho4
            have HG4 : Hid (w.grownBy w4 none) := grown_any hg.out hg4 (fun q e => (hown.out.lt q e).1)
            clear hza hzb
            clear ho4 hg4 hown hg NB hnx c0 c1 c2 c3 d0 d1 d2 d3 hla hlb hM200
            go_wp2_with fail
            go_roundw
            case rel => exact ⟨A, (⟨ys, yb, ya, yf⟩ :: B), M ++ [(⟨sz, bs, ba, bf⟩ : BestV)], nx, _, k1 - 1, k2, _, by rw [HNa.out], by simp [HNb.out], rfl, HNX.out, HG4.out, HO4.out⟩
            case measure => simp [lenV, HNa.out, HNb.out]
          · by_cases hgt : y.sz < x.sz
            · have HRM : Hid (remM (M ++ [y]) (x :: A) B = mrgM a b ∧ Rem (M ++ [y]) (x :: A) B) := by
                obtain ⟨q1, q2⟩ := rem_b hm.out.rem (by intro z hz; cases hz; exact hgt)
                exact ⟨q1.symm.trans hm.out.eq, q2⟩
              obtain ⟨sz, bs, ba, bf⟩ := x
              simp only at c0 c1 c2 c3
              obtain ⟨n, hna⟩ : ∃ n, A.length = n := ⟨_, rfl⟩
              have hsa : (⟨sz, bs, ba, bf⟩ :: A : List BestV).length = n + 1 := by simp [hna]
              have hla : n + 1 ≤ k1 := by have q := hm.out.la; rw [hsa] at q; exact q
              have HNa := Lib.hid hna
              rw [hsa]
              clear hsa hna
              have hza : ((n : Int) + 1 == 0) = false := by rw [beq_eq_false_iff_ne]; omega
              obtain ⟨ys, yb, ya, yf⟩ := y
              simp only at d0 d1 d2 d3
              obtain ⟨n2, hnb⟩ : ∃ n, B.length = n := ⟨_, rfl⟩
              have hsb : (⟨ys, yb, ya, yf⟩ :: B : List BestV).length = n2 + 1 := by simp [hnb]
              have hlb : n2 + 1 ≤ k2 := by have q := hm.out.lb; rw [hsb] at q; exact q
              have HNb := Lib.hid hnb
              rw [hsb]
              clear hsb hnb
              have hzb : ((n2 : Int) + 1 == 0) = false := by rw [beq_eq_false_iff_ne]; omega
              simp only at hlt hgt
              have dlt : decide (sz < ys) = false := by simpa using hlt
              have dgt : decide (ys < sz) = true := by simpa using hgt
              go_wp2_with fail
              go_quiet (fail)
              obtain ⟨W, hW⟩ : ∃ V, wr.drewN nq = V := ⟨_, rfl⟩
              have hgW : wr.grownBy W none := by rw [← hW]; exact grown_drewN _ none _
              rw [hW]
              replace c0 := grown_cell hgW c0; replace c1 := grown_cell hgW c1; replace c2 := grown_cell hgW c2; replace c3 := grown_cell hgW c3
              replace d0 := grown_cell hgW d0; replace d1 := grown_cell hgW d1; replace d2 := grown_cell hgW d2; replace d3 := grown_cell hgW d3
              replace hg := Lib.hid (grown_trans hg.out hgW)
              replace hown := Lib.hid (kept_own hown.out hgW)
              clear hW hgW nq
              go_wp2_with fail
              go_quiet (fail)
              obtain ⟨W2, hW⟩ : ∃ V, W.drewN nq = V := ⟨_, rfl⟩
              have hgW : W.grownBy W2 none := by rw [← hW]; exact grown_drewN _ none _
              rw [hW]
              replace c0 := grown_cell hgW c0; replace c1 := grown_cell hgW c1; replace c2 := grown_cell hgW c2; replace c3 := grown_cell hgW c3
              replace d0 := grown_cell hgW d0; replace d1 := grown_cell hgW d1; replace d2 := grown_cell hgW d2; replace d3 := grown_cell hgW d3
              replace hg := Lib.hid (grown_trans hg.out hgW)
              replace hown := Lib.hid (kept_own hown.out hgW)
              clear hW hgW nq
              obtain ⟨nx, hnx⟩ : ∃ nx : Option Addr, (if k2 = 1 then some (⟨g2, o2, none⟩ : Addr) else some ⟨g2, o2 + 4, none⟩) = nx := ⟨_, rfl⟩
              have HLEN := Lib.hid hm.out.len
              have HNX : Hid (MgS w (some ⟨g, o, none⟩) nx k1 (k2 - 1) (⟨sz, bs, ba, bf⟩ :: A) B (M ++ [⟨ys, yb, ya, yf⟩]) (mrgM a b)) := ⟨hm.out.ra, by rw [← hnx]; exact rows_next hm.out.rb (by have := HNb.out; omega), hm.out.la, by have := HNb.out; omega, HRM.out.2, HRM.out.1, by have := HLEN.out; simp only [List.length_cons, List.length_nil, List.length_append] at this ⊢; omega⟩
              have hM200 : M.length ≤ 200 := by have := HLEN.out; simp only [List.length_cons, List.length_nil] at this; omega
              have NB : Hid (some g2 ≠ v.ownBlock) := fun e => by have := (hown.out.lt g2 e.symm).1; have := HLb.out; omega
              clear hm HRM HLEN
              go_upto_region 13 with (fail)
              show (rgOf 13 Try.f28).wp _ _ _ _
              refine mrg_r13 _ _ _ _ _ _ _ _ _ _ _ _ _ _ _ _ _ _ _ _ _ _ _ _ _ _ _ _ _ _ _ _ _ _ _ _ _ _ _ _ _ _ _ _ _ _ _ _ _ _ _ _ _ _ _ _ _ _ _ _ _ _ _ _ _ _ _ _ _ _ _ _ _ _ _ _ _ _ _ _ _ _ _ _ _ _ _ _ _ _ _ _ _ _ _ W2 w.heap.size g2 o2 n2 k2 nx v M ys yb ya yf (Lib.hid d0) (Lib.hid d1) (Lib.hid d2) (Lib.hid d3) NB hlb hnx hown hM200 hg.out.size (fun _ _ _ _ _ _ _ _ gg cap2 w4 ho4 hg4 => ?_)
              have HO4 := Lib.hid ho4
              have HG4 : Hid (w.grownBy w4 none) := grown_any hg.out hg4 (fun q e => (hown.out.lt q e).1)
              clear hza hzb
              clear ho4 hg4 hown hg NB hnx c0 c1 c2 c3 d0 d1 d2 d3 hla hlb hM200
              go_wp2_with fail
              go_roundw
              case rel => exact ⟨(⟨sz, bs, ba, bf⟩ :: A), B, M ++ [(⟨ys, yb, ya, yf⟩ : BestV)], _, nx, k1, k2 - 1, _, by simp [HNa.out], by rw [HNb.out], rfl, HNX.out, HG4.out, HO4.out⟩
              case measure => simp [lenV, HNa.out, HNb.out]
            · obtain ⟨q, hq⟩ : ∃ q, betB y.b x.b = q := ⟨_, rfl⟩
              obtain ⟨z, hz⟩ : ∃ z, (if betB y.b x.b = true then y else x) = z := ⟨_, rfl⟩
              have HRM : Hid (remM (M ++ [z]) A B = mrgM a b ∧ Rem (M ++ [z]) A B) := by
                obtain ⟨q1, q2⟩ := rem_ab hm.out.rem (show x.sz = y.sz by omega)
                rw [hz] at q1 q2
                exact ⟨q1.symm.trans hm.out.eq, q2⟩
              rw [hq] at hz
              have HQ := Lib.hid hq; have HZ := Lib.hid hz
              clear hq hz
              obtain ⟨sz, bs, ba, bf⟩ := x
              simp only at c0 c1 c2 c3
              obtain ⟨n, hna⟩ : ∃ n, A.length = n := ⟨_, rfl⟩
              have hsa : (⟨sz, bs, ba, bf⟩ :: A : List BestV).length = n + 1 := by simp [hna]
              have hla : n + 1 ≤ k1 := by have q := hm.out.la; rw [hsa] at q; exact q
              have HNa := Lib.hid hna
              rw [hsa]
              clear hsa hna
              have hza : ((n : Int) + 1 == 0) = false := by rw [beq_eq_false_iff_ne]; omega
              obtain ⟨ys, yb, ya, yf⟩ := y
              simp only at d0 d1 d2 d3
              obtain ⟨n2, hnb⟩ : ∃ n, B.length = n := ⟨_, rfl⟩
              have hsb : (⟨ys, yb, ya, yf⟩ :: B : List BestV).length = n2 + 1 := by simp [hnb]
              have hlb : n2 + 1 ≤ k2 := by have q := hm.out.lb; rw [hsb] at q; exact q
              have HNb := Lib.hid hnb
              rw [hsb]
              clear hsb hnb
              have hzb : ((n2 : Int) + 1 == 0) = false := by rw [beq_eq_false_iff_ne]; omega
              simp only at hlt hgt
              have dlt : decide (sz < ys) = false := by simpa using hlt
              have dgt : decide (ys < sz) = false := by simpa using hgt
              go_wp2_with fail
              go_quiet (fail)
              obtain ⟨W, hW⟩ : ∃ V, wr.drewN nq = V := ⟨_, rfl⟩
              have hgW : wr.grownBy W none := by rw [← hW]; exact grown_drewN _ none _
              rw [hW]
              replace c0 := grown_cell hgW c0; replace c1 := grown_cell hgW c1; replace c2 := grown_cell hgW c2; replace c3 := grown_cell hgW c3
              replace d0 := grown_cell hgW d0; replace d1 := grown_cell hgW d1; replace d2 := grown_cell hgW d2; replace d3 := grown_cell hgW d3
              replace hg := Lib.hid (grown_trans hg.out hgW)
              replace hown := Lib.hid (kept_own hown.out hgW)
              clear hW hgW nq
              go_wp2_with fail
              go_quiet (fail)
              obtain ⟨W2, hW⟩ : ∃ V, W.drewN nq = V := ⟨_, rfl⟩
              have hgW : W.grownBy W2 none := by rw [← hW]; exact grown_drewN _ none _
              rw [hW]
              replace c0 := grown_cell hgW c0; replace c1 := grown_cell hgW c1; replace c2 := grown_cell hgW c2; replace c3 := grown_cell hgW c3
              replace d0 := grown_cell hgW d0; replace d1 := grown_cell hgW d1; replace d2 := grown_cell hgW d2; replace d3 := grown_cell hgW d3
              replace hg := Lib.hid (grown_trans hg.out hgW)
              replace hown := Lib.hid (kept_own hown.out hgW)
              clear hW hgW nq
              clear hlt hgt dlt dgt
              obtain ⟨nx, hnx⟩ : ∃ nx : Option Addr, (if k1 = 1 then some (⟨g, o, none⟩ : Addr) else some ⟨g, o + 4, none⟩) = nx := ⟨_, rfl⟩
              obtain ⟨ny, hny⟩ : ∃ ny : Option Addr, (if k2 = 1 then some (⟨g2, o2, none⟩ : Addr) else some ⟨g2, o2 + 4, none⟩) = ny := ⟨_, rfl⟩
              have HLEN := Lib.hid hm.out.len
              have HNX : Hid (MgS w nx ny (k1 - 1) (k2 - 1) A B (M ++ [z]) (mrgM a b)) := ⟨by rw [← hnx]; exact rows_next hm.out.ra (by have := HNa.out; omega), by rw [← hny]; exact rows_next hm.out.rb (by have := HNb.out; omega), by have := HNa.out; omega, by have := HNb.out; omega, HRM.out.2, HRM.out.1, by have := HLEN.out; simp only [List.length_cons, List.length_nil, List.length_append] at this ⊢; omega⟩
              have hM200 : M.length ≤ 200 := by have := HLEN.out; simp only [List.length_cons, List.length_nil] at this; omega
              have NB : Hid (some W2.heap.size ≠ v.ownBlock) := fun e => by have := (hown.out.lt _ e.symm).2; omega
              have HNXY : Hid ((if k1 = 1 then some (⟨g, o, none⟩ : Addr) else some ⟨g, o + 4, none⟩) = nx ∧ (if k2 = 1 then some (⟨g2, o2, none⟩ : Addr) else some ⟨g2, o2 + 4, none⟩) = ny) := ⟨hnx, hny⟩
              have HM200 := Lib.hid hM200; have HL1 := Lib.hid hla; have HL2 := Lib.hid hlb
              clear hnx hny hm HRM HLEN hM200
              go_wp2_with fail
              clear hla hlb hza hzb
              obtain ⟨V, hV⟩ : ∃ V, W2.alloc (.cells #[.int .i64 sz, .int .i64 bs, .int .i64 ba, .bool bf] 24) = V := ⟨_, rfl⟩
              have hgV : W2.grownBy V none := by rw [← hV]; exact grown_al _ _
              have hbV : V.heap[W2.heap.size]? = some (.cells #[.int .i64 sz, .int .i64 bs, .int .i64 ba, .bool bf] 24 (0, 0)) := by rw [← hV]; exact heap_alloc_new _ _
              rw [hV]
              have x0 : ∀ p : GrW V, p.V.cell? ⟨W2.heap.size, 0, none⟩ = some (.int .i64 sz) := fun p => grown_cell p.h (mblock_cell hbV 0 _ rfl)
              have x1 : ∀ p : GrW V, p.V.cell? ⟨W2.heap.size, 1, none⟩ = some (.int .i64 bs) := fun p => grown_cell p.h (mblock_cell hbV 1 _ rfl)
              have x2 : ∀ p : GrW V, p.V.cell? ⟨W2.heap.size, 2, none⟩ = some (.int .i64 ba) := fun p => grown_cell p.h (mblock_cell hbV 2 _ rfl)
              have x3 : ∀ p : GrW V, p.V.cell? ⟨W2.heap.size, 3, none⟩ = some (.bool bf) := fun p => grown_cell p.h (mblock_cell hbV 3 _ rfl)
              have y0 : ∀ p : GrW V, p.V.cell? ⟨g2, o2, none⟩ = some (.int .i64 ys) := fun p => grown_cell p.h (grown_cell hgV d0)
              have y1 : ∀ p : GrW V, p.V.cell? ⟨g2, o2 + 1, none⟩ = some (.int .i64 yb) := fun p => grown_cell p.h (grown_cell hgV d1)
              have y2 : ∀ p : GrW V, p.V.cell? ⟨g2, o2 + 2, none⟩ = some (.int .i64 ya) := fun p => grown_cell p.h (grown_cell hgV d2)
              have y3 : ∀ p : GrW V, p.V.cell? ⟨g2, o2 + 3, none⟩ = some (.bool yf) := fun p => grown_cell p.h (grown_cell hgV d3)
              have HC : Hid (∀ p : GrW V, Calls Try.prog 66 #[.agg #[.int .i64 sz, .int .i64 bs, .int .i64 ba, .bool bf], .agg #[.int .i64 ys, .int .i64 yb, .int .i64 ya, .bool yf]] p.V fun e w' => e = .returned (.bool q) ∧ ∃ q : GrW V, w' = q.V) :=
                fun p => GrW.calls (less_is ⟨sz, bs, ba, bf⟩ ⟨ys, yb, ya, yf⟩ p.V HQ)
              have HGV := Lib.hid hgV; have HBV := Lib.hid hbV
              have HD := Lib.hid (And.intro d0 (And.intro d1 (And.intro d2 d3)))
              clear hV hgV hbV c0 c1 c2 c3 d0 d1 d2 d3
              refine wp_region_quiet_gr (by kernel_rfl) (by kernel_rfl) ?_
              repeat (quiet_step (first | (go_at_call 66; exact HC.out _)))
              refine wpQuiet_nil ?_
              rintro U ⟨p9, e9⟩
              have hU : V.grownBy U none := by rw [e9]; exact p9.h
              have HGU : Hid (W2.grownBy U none) := grown_trans HGV.out hU
              have hbU := mblock_at HBV.out hU (by simp)
              clear e9 p9 hU x0 x1 x2 x3 y0 y1 y2 y3 HC HGV
              cases q
              · obtain rfl : z = ⟨sz, bs, ba, bf⟩ := by have := HZ.out; simpa using this.symm
                have HOF := Lib.hid (kept_own hown.out HGU.out)
                have HGF : Hid (w.grownBy U none) := grown_trans hg.out HGU.out
                have HBU := Lib.hid hbU
                clear hbU hown hg
                go_upto_region 9 with (fail)
                show (rgOf 9 Try.f28).wp _ _ _ _
                refine mrg_r9 _ _ _ _ _ _ _ _ _ _ _ _ _ _ _ _ _ _ _ _ _ _ _ _ _ _ _ _ _ _ _ _ _ _ _ _ _ _ _ _ _ _ _ _ _ _ _ _ _ _ _ _ _ _ _ _ _ _ _ _ _ _ _ _ _ _ _ _ _ _ _ _ _ _ _ _ _ _ _ _ _ _ _ _ _ _ _ _ _ _ _ _ _ U w.heap.size g o n k1 g2 o2 n2 k2 W2.heap.size nx ny v M sz bs ba bf (Lib.hid (mblock_cell HBU.out 0 _ rfl)) (Lib.hid (mblock_cell HBU.out 1 _ rfl)) (Lib.hid (mblock_cell HBU.out 2 _ rfl)) (Lib.hid (mblock_cell HBU.out 3 _ rfl)) NB HL1.out HNXY.out.1 HL2.out HNXY.out.2 HOF HM200.out HGF.out.size (fun _ _ _ _ _ _ _ _ gg cap2 w4 ho4 hg4 => ?_)
                have HO4 := Lib.hid ho4
                have HG4 : Hid (w.grownBy w4 none) := grown_any HGF.out hg4 (fun q e => (HOF.out.lt q e).1)
                clear ho4 hg4 HOF HGF HBU NB HM200 HGU HZ HQ HBV HD
                go_wp2_with fail
                go_roundw
                case rel => exact ⟨A, B, M ++ [(⟨sz, bs, ba, bf⟩ : BestV)], nx, ny, k1 - 1, k2 - 1, _, by rw [HNa.out], by rw [HNb.out], rfl, HNX.out, HG4.out, HO4.out⟩
                case measure => simp [lenV, HNa.out, HNb.out]; omega
              · obtain rfl : z = ⟨ys, yb, ya, yf⟩ := by have := HZ.out; simpa using this.symm
                have dU0 := grown_cell HGU.out HD.out.1; have dU1 := grown_cell HGU.out HD.out.2.1; have dU2 := grown_cell HGU.out HD.out.2.2.1; have dU3 := grown_cell HGU.out HD.out.2.2.2
                have z0 : U.frozen? ⟨W2.heap.size, 0, none⟩ = false := mblock_free hbU
                have x0 : U.cell? ⟨W2.heap.size, 0, none⟩ = some (.int .i64 sz) := mblock_cell hbU 0 _ rfl
                have z1 : U.frozen? ⟨W2.heap.size, 1, none⟩ = false := mblock_free hbU
                have x1 : U.cell? ⟨W2.heap.size, 1, none⟩ = some (.int .i64 bs) := mblock_cell hbU 1 _ rfl
                have z2 : U.frozen? ⟨W2.heap.size, 2, none⟩ = false := mblock_free hbU
                have x2 : U.cell? ⟨W2.heap.size, 2, none⟩ = some (.int .i64 ba) := mblock_cell hbU 2 _ rfl
                have z3 : U.frozen? ⟨W2.heap.size, 3, none⟩ = false := mblock_free hbU
                have x3 : U.cell? ⟨W2.heap.size, 3, none⟩ = some (.bool bf) := mblock_cell hbU 3 _ rfl
                have hgF : W2.grownBy ((((U.setCell ⟨W2.heap.size, 0, none⟩ (.int .i64 ys)).setCell ⟨W2.heap.size, 1, none⟩ (.int .i64 yb)).setCell ⟨W2.heap.size, 2, none⟩ (.int .i64 ya)).setCell ⟨W2.heap.size, 3, none⟩ (.bool yf)) none := mgrown_set (mgrown_set (mgrown_set (mgrown_set HGU.out (Nat.le_refl _) _ _) (Nat.le_refl _) _ _) (Nat.le_refl _) _ _) (Nat.le_refl _) _ _
                have HBU : Hid (((((U.setCell ⟨W2.heap.size, 0, none⟩ (.int .i64 ys)).setCell ⟨W2.heap.size, 1, none⟩ (.int .i64 yb)).setCell ⟨W2.heap.size, 2, none⟩ (.int .i64 ya)).setCell ⟨W2.heap.size, 3, none⟩ (.bool yf)).heap[W2.heap.size]? = some (.cells #[.int .i64 ys, .int .i64 yb, .int .i64 ya, .bool yf] 24 (0, 0))) := by
                  have q := mblock_set (k := 3) (mblock_set (k := 2) (mblock_set (k := 1) (mblock_set (k := 0) hbU (.int .i64 ys)) (.int .i64 yb)) (.int .i64 ya)) (.bool yf)
                  exact Lib.hid (by simpa using q)
                have HOF := Lib.hid (kept_own hown.out hgF)
                have HGF : Hid (w.grownBy ((((U.setCell ⟨W2.heap.size, 0, none⟩ (.int .i64 ys)).setCell ⟨W2.heap.size, 1, none⟩ (.int .i64 yb)).setCell ⟨W2.heap.size, 2, none⟩ (.int .i64 ya)).setCell ⟨W2.heap.size, 3, none⟩ (.bool yf)) none) := grown_trans hg.out hgF
                clear hbU hown hg hgF
                go_upto_region 9 with (fail)
                generalize ((((U.setCell ⟨W2.heap.size, 0, none⟩ (.int .i64 ys)).setCell ⟨W2.heap.size, 1, none⟩ (.int .i64 yb)).setCell ⟨W2.heap.size, 2, none⟩ (.int .i64 ya)).setCell ⟨W2.heap.size, 3, none⟩ (.bool yf)) = U2 at *
                show (rgOf 9 Try.f28).wp _ _ _ _
                refine mrg_r9 _ _ _ _ _ _ _ _ _ _ _ _ _ _ _ _ _ _ _ _ _ _ _ _ _ _ _ _ _ _ _ _ _ _ _ _ _ _ _ _ _ _ _ _ _ _ _ _ _ _ _ _ _ _ _ _ _ _ _ _ _ _ _ _ _ _ _ _ _ _ _ _ _ _ _ _ _ _ _ _ _ _ _ _ _ _ _ _ _ _ _ _ _ U2 w.heap.size g o n k1 g2 o2 n2 k2 W2.heap.size nx ny v M ys yb ya yf (Lib.hid (mblock_cell HBU.out 0 _ rfl)) (Lib.hid (mblock_cell HBU.out 1 _ rfl)) (Lib.hid (mblock_cell HBU.out 2 _ rfl)) (Lib.hid (mblock_cell HBU.out 3 _ rfl)) NB HL1.out HNXY.out.1 HL2.out HNXY.out.2 HOF HM200.out HGF.out.size (fun _ _ _ _ _ _ _ _ gg cap2 w4 ho4 hg4 => ?_)
                have HO4 := Lib.hid ho4
                have HG4 : Hid (w.grownBy w4 none) := grown_any HGF.out hg4 (fun q e => (HOF.out.lt q e).1)
                clear ho4 hg4 HOF HGF HBU NB HM200 HGU HZ HQ HBV HD
                go_wp2_with fail
                go_roundw
                case rel => exact ⟨A, B, M ++ [(⟨ys, yb, ya, yf⟩ : BestV)], nx, ny, k1 - 1, k2 - 1, _, by rw [HNa.out], by rw [HNb.out], rfl, HNX.out, HG4.out, HO4.out⟩
                case measure => simp [lenV, HNa.out, HNb.out]; omega
  · rw [if_neg h0] at hv
    simp only [Prod.mk.injEq] at hv
    obtain ⟨rfl, rfl⟩ := hv
    have hne : (x != 0) = true := by simpa using h0
    clear hx h0
    go_enter Try.func28, Try.ntmps28
    go_wp2_with fail
    refine (two_is ao bo ca cb a b ha hb w HS.out HT.out HX).mono ?_; rintro e w1 ⟨rfl, hg1⟩
    have HG1 := Lib.hid hg1
    clear hg1
    go_wp2_with fail
    go_ret2
    exact ⟨⟨_, rfl, World.ownsRow_nil _ _ _ _⟩, HG1.out⟩
end Go.Proofs.Ytfeefijaahjheaa
