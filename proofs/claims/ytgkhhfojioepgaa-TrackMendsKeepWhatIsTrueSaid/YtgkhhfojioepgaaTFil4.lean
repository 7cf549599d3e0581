/- fill of Fill, for one field. -/
import Derived.Test.YtgkhhfojioepgaaTBrg4
namespace Go.Proofs.Ytgkhhfojioepgaa
open Go.RowKit
set_option linter.unusedSimpArgs false
set_option linter.unusedVariables false

theorem grown_rr4 {w W W' : World} {g : Nat} (h : w.grownBy W (some g)) (h' : W.grownBy W' (some g)) : w.grownBy W' (some g) :=
  ⟨h'.os.trans h.os, h'.tape.trans h.tape, h'.output.trans h.output, Nat.le_trans h.size h'.size, fun k hk hne => (h'.block k (Nat.lt_of_lt_of_le hk h.size) hne).trans (h.block k hk hne)⟩
theorem fil4_cells {W : World} {base g cap n : Nat} {L : List Smp} (h : W.ownsRow base 28 7 (.slice (some ⟨g, 0, none⟩) n cap) n (smpRw L)) (hl : L.length = n) {k : Nat} (hk : k < n) {x : Smp} (hx : smpD L k = x) :
    W.cell? ⟨g, k * 7, none⟩ = some (.int .i64 x.t) ∧ W.cell? ⟨g, k * 7 + 1, none⟩ = some (.int .i64 x.x) ∧ W.cell? ⟨g, k * 7 + 2, none⟩ = some (.int .i64 x.y) ∧ W.cell? ⟨g, k * 7 + 3, none⟩ = some (.int .i64 x.z) ∧ W.cell? ⟨g, k * 7 + 4, none⟩ = some (.int .i64 x.p) ∧ W.cell? ⟨g, k * 7 + 5, none⟩ = some (.int .i64 x.q) ∧ W.cell? ⟨g, k * 7 + 6, none⟩ = some (.int .i64 x.s) := by
  subst hl; exact brg4_cells h hk hx

set_option maxRecDepth 100000 in
set_option maxHeartbeats 3200000 in
theorem fil4_is (base : Nat) (ao : Option Addr) (cap : Nat) (A M : List Smp) (HS : Hid (SOk A)) (hM : Hid (Agr 4 A M 0)) (gap : Int) (w : World) (ho : Hid (World.ownsRow w base 28 7 (.slice ao M.length cap) M.length (smpRw (M)))) :
    Calls Try.prog 91 #[.slice ao M.length cap, .int .i64 gap, .func (.func 90) #[] #[], .func (.func 92) #[] #[]] w fun e w' => e = .returned (.tuple #[]) ∧ Hid (World.ownsRow w' base 28 7 (.slice ao M.length cap) M.length (smpRw (fiA 4 gap A M A.length))) ∧ w.grownBy w' (Value.slice ao M.length cap).ownBlock := by
  have hml : Hid (M.length = A.length) := hM.out.len
  have hl2 : (M.length : Int) ≤ 20000 := by rw [hml.out]; exact HS.out.len
  have hfl : Hid (Fld 4) := by show Fld _; unfold Fld; omega
  go_enter Try.func91, Try.ntmps91
  go_wp2_with fail
  go_loopw [8, 12] (fun kv iv wr => ∃ (k : Nat), kv = .int .i64 (knA 4 A k) ∧ iv = .int .i64 k ∧ k ≤ M.length ∧ Hid (World.ownsRow wr base 28 7 (.slice ao M.length cap) M.length (smpRw (fiA 4 gap A M k))) ∧ Hid (w.grownBy wr (Value.slice ao M.length cap).ownBlock)) (fun _ iv _ => M.length - (intOf iv).toNat)
  case atStart => exact ⟨0, rfl, rfl, Nat.zero_le _, ho, World.grownBy.refl _ _⟩
  case round =>
    obtain ⟨k, rfl, rfl, hk, hR, hGr⟩ := hrel
    by_cases hlt : k < M.length
    · obtain ⟨g, cap', hv, _, _⟩ := hR.out.form (by omega)
      injection hv with e1 _ e3
      subst e1; subst e3
      have hin := fi_inv HS.out hfl.out gap hml.out k (by have := hml.out; omega)
      have hag := hin.agr hM.out
      have hfk : Hid ((fiA 4 gap A M k).length = M.length) := hin.len
      obtain ⟨⟨kn0, kn1⟩, kn2, kn3⟩ := kn_is 4 A k
      obtain ⟨x, hx⟩ : ∃ x, smpD (fiA 4 gap A M k) k = x := ⟨_, rfl⟩
      have xt : Hid (x.t = (smpD A k).t) := by show _ = _; rw [← hx]; exact hag.t k
      have xf : Hid (x.p = (smpD A k).p) := by have q := hag.f k (.inl (Nat.le_refl _)); rw [hx] at q; exact q
      obtain ⟨c0, c1, c2, c3, c4, c5, c6⟩ := fil4_cells hR.out hfk.out hlt hx
      have FS : Hid (∀ y, x.p = y → (y < 0 → knA 4 A (k + 1) = knA 4 A k ∧ fiA 4 gap A M (k + 1) = fiA 4 gap A M k) ∧ (¬ y < 0 → knA 4 A (k + 1) = (k : Int) ∧ fiA 4 gap A M (k + 1) = if 0 ≤ knA 4 A k ∧ (smpD A k).t - (smpD A (knA 4 A k).toNat).t ≤ gap then brA 4 A (fiA 4 gap A M k) (knA 4 A k).toNat k (k - (knA 4 A k).toNat - 1) else fiA 4 gap A M k)) := fun y hy => by
        have e : smpGet 4 (smpD A k) = y := by rw [← hy, xf.out]; rfl
        refine ⟨fun h => ?_, fun h => ?_⟩
        · rw [knA, fiA, e, if_pos h, if_pos h]; exact ⟨rfl, rfl⟩
        · rw [knA, fiA, e, if_neg h, if_neg h]; exact ⟨rfl, rfl⟩
      have HAG := Lib.hid hag; have HC3 := Lib.hid kn3; have HC2 := Lib.hid kn2
      have i0 : (0 : Int) ≤ (k : Int) := by omega
      have i1 : (k : Int) < (M.length : Int) := by omega
      have rk : IntKind.i64.wrap ((k : Int) + 1) = ((k + 1 : Nat) : Int) := by rw [show (k : Int) + 1 = ((k + 1 : Nat) : Int) by omega]; exact IntWalk.i64_in _ (by omega)
      have HLT := Lib.hid hlt
      have xt0 : 0 ≤ x.t ∧ x.t ≤ 1000000 := by
        have q := HS.out.inn k (by have := hml.out; omega)
        rw [xt.out]; exact ⟨q.1, q.2.1⟩
      have hxf := FS.out _ rfl
      have HXF := Lib.hid hxf
      clear hxf FS hag hin kn2 kn3 hx hk
      obtain ⟨kn, hkn⟩ : ∃ z, knA 4 A k = z := ⟨_, rfl⟩
      rw [hkn] at kn0 kn1 ⊢
      have HKN := Lib.hid hkn
      clear hkn
      by_cases hneg : x.p < 0
      · have hd : decide (x.p < 0) = true := by simpa using hneg
        have hz := HXF.out.1 hneg
        have HZ := Lib.hid hz
        clear hz HXF hneg kn0 kn1
        go_wp2_with fail
        refine (fld4_is g (k * 7) _).mono ?_; rintro e w4 ⟨rfl, rfl⟩
        go_wp2_with fail
        go_roundw
        case rel => exact ⟨k + 1, by rw [HZ.out.1, HKN.out], by go_num, HLT.out, by show World.ownsRow _ _ _ _ _ _ _; rw [HZ.out.2]; exact hR.out, hGr⟩
        case measure => have := HLT.out; simp [intOf]; omega
      · have hd : decide (x.p < 0) = false := by simpa using hneg
        have hz := HXF.out.2 hneg
        have HZ := Lib.hid hz
        have HNG : Hid (0 ≤ x.p) := by show _ ≤ _; omega
        clear hz HXF hneg
        by_cases hk0 : kn < 0
        · have hd2 : decide (0 ≤ kn) = false := by simp; omega
          have HK0 := Lib.hid hk0
          clear kn0 kn1 hk0
          go_wp2_with fail
          refine (fld4_is g (k * 7) _).mono ?_; rintro e w4 ⟨rfl, rfl⟩
          go_upto_region 5 with (fail)
          go_quiet (fail)
          have HR2 : Hid (World.ownsRow (w4.drewN nq) base 28 7 (.slice (some ⟨g, 0, none⟩) M.length cap) M.length (smpRw (fiA 4 gap A M (k + 1)))) := by
            show World.ownsRow _ _ _ _ _ _ _
            rw [HZ.out.2, HKN.out, if_neg (by have := HK0.out; omega)]
            exact hR.out.kept (grown_drewN _ none _) (by cases (Value.slice (some ⟨g, 0, none⟩) M.length cap).ownBlock <;> simp)
          have HG2 : Hid (w.grownBy (w4.drewN nq) (Value.slice (some ⟨g, 0, none⟩) M.length cap).ownBlock) := grown_row4 hGr.out (grown_drewN _ none _)
          generalize w4.drewN nq = V9 at *
          go_wp2_with fail
          go_roundw
          case rel => exact ⟨k + 1, by rw [HZ.out.1], by go_num, HLT.out, HR2, HG2⟩
          case measure => have := HLT.out; simp [intOf]; omega
        · obtain ⟨i, rfl⟩ : ∃ i : Nat, kn = (i : Int) := ⟨kn.toNat, by omega⟩
          have hik : i < k := by omega
          obtain ⟨p, hp⟩ : ∃ p, smpD (fiA 4 gap A M k) i = p := ⟨_, rfl⟩
          have pt : Hid (p.t = (smpD A i).t) := by show _ = _; rw [← hp]; exact HAG.out.t i
          obtain ⟨d0, d1, d2, d3, d4, d5, d6⟩ := fil4_cells hR.out hfk.out (k := i) (by omega) hp
          have pt0 : 0 ≤ p.t ∧ p.t ≤ 1000000 := by
            have q := HS.out.inn i (by have := hml.out; have := HLT.out; omega)
            rw [pt.out]; exact ⟨q.1, q.2.1⟩
          have hd2 : decide (0 ≤ (i : Int)) = true := by simp
          have j1 : (i : Int) < (M.length : Int) := by omega
          have j0 : (0 : Int) ≤ (i : Int) := by omega
          have r1 : IntKind.i64.wrap (x.t - p.t) = x.t - p.t := IntWalk.i64_in _ (by omega)
          have gi : Hid (0 ≤ (smpD A i).p) := by
            have q := HC2.out; rw [HKN.out] at q; exact q (by omega)
          have HIK := Lib.hid hik
          clear kn0 kn1 hk0 hp hik HC2 HC3
          go_wp2_with fail
          refine (fld4_is g (k * 7) _).mono ?_; rintro e w4 ⟨rfl, rfl⟩
          go_upto_region 5 with (fail)
          have gd : w4.grownBy w4.drew none := grown_drewN w4 none 1
          have G1 := Lib.hid gd
          have k0 := grown_cell gd c0; have k1 := grown_cell gd c1; have k2 := grown_cell gd c2; have k3 := grown_cell gd c3; have k4 := grown_cell gd c4; have k5 := grown_cell gd c5; have k6 := grown_cell gd c6
          have l0 := grown_cell gd d0; have l1 := grown_cell gd d1; have l2 := grown_cell gd d2; have l3 := grown_cell gd d3; have l4 := grown_cell gd d4; have l5 := grown_cell gd d5; have l6 := grown_cell gd d6
          clear gd c0 c1 c2 c3 c4 c5 c6 d0 d1 d2 d3 d4 d5 d6
          refine region_late (lateK (fun V => V.cell? ⟨g, k * 7, none⟩ = some (.int .i64 x.t) ∧ V.cell? ⟨g, k * 7 + 1, none⟩ = some (.int .i64 x.x) ∧ V.cell? ⟨g, k * 7 + 2, none⟩ = some (.int .i64 x.y) ∧ V.cell? ⟨g, k * 7 + 3, none⟩ = some (.int .i64 x.z) ∧ V.cell? ⟨g, k * 7 + 4, none⟩ = some (.int .i64 x.p) ∧ V.cell? ⟨g, k * 7 + 5, none⟩ = some (.int .i64 x.q) ∧ V.cell? ⟨g, k * 7 + 6, none⟩ = some (.int .i64 x.s) ∧ V.cell? ⟨g, i * 7, none⟩ = some (.int .i64 p.t) ∧ V.cell? ⟨g, i * 7 + 1, none⟩ = some (.int .i64 p.x) ∧ V.cell? ⟨g, i * 7 + 2, none⟩ = some (.int .i64 p.y) ∧ V.cell? ⟨g, i * 7 + 3, none⟩ = some (.int .i64 p.z) ∧ V.cell? ⟨g, i * 7 + 4, none⟩ = some (.int .i64 p.p) ∧ V.cell? ⟨g, i * 7 + 5, none⟩ = some (.int .i64 p.q) ∧ V.cell? ⟨g, i * 7 + 6, none⟩ = some (.int .i64 p.s)) []) (by kernel_rfl) ⟨k0, k1, k2, k3, k4, k5, k6, l0, l1, l2, l3, l4, l5, l6⟩ (fun hC0 hS0 => ?_)
          generalize w4.drew = V1 at *
          refine wpAnyS_take (i := 0) (oi := ?oi1) (v := .int .i64 (i : Int)) ?hi1 (by kernel_rfl) (by kernel_rfl) (by kernel_rfl) (lateK_iff (by rfl)) ?hq1 ?hy1 hC0 hS0 ?rest1
          case hi1 => simp only [List.getElem?_toArray, List.getElem?_cons_zero, Option.some.injEq]; rfl
          case hq1 => exact fun _ _ _ h => h
          case hy1 =>
            refine Or.inl ⟨by kernel_rfl, fun V hV => ?_⟩
            clear hV
            go_simp
          intro hC1 hS1
          clear hC0 hS0
          try simp only [Go.Act.put, List.setIfInBounds_toArray, List.set_cons_zero, List.set_cons_succ]
          refine wpAnyS_take (i := 1) (oi := ?oi2) (v := .bool true) ?hi2 (by kernel_rfl) (by kernel_rfl) (by kernel_rfl) (lateK_iff (by rfl)) ?hq2 ?hy2 hC1 hS1 ?rest2
          case hi2 => simp only [List.getElem?_toArray, List.getElem?_cons_succ, List.getElem?_cons_zero, Option.some.injEq]; rfl
          case hq2 => exact fun _ _ _ h => h
          case hy2 =>
            refine Or.inl ⟨by kernel_rfl, fun V hV => ?_⟩
            clear hV
            go_simp
          intro hC2 hS2
          clear hC1 hS1
          try simp only [Go.Act.put, List.setIfInBounds_toArray, List.set_cons_zero, List.set_cons_succ]
          refine wpAnyS_take (i := 2) (oi := ?oi3) (v := .bool true) ?hi3 (by kernel_rfl) (by kernel_rfl) (by kernel_rfl) (lateK_iff (by rfl)) ?hq3 ?hy3 hC2 hS2 ?rest3
          case hi3 => simp only [List.getElem?_toArray, List.getElem?_cons_succ, List.getElem?_cons_zero, Option.some.injEq]; rfl
          case hq3 => exact fun _ _ _ h => h
          case hy3 =>
            refine Or.inl ⟨by kernel_rfl, fun V hV => ?_⟩
            clear hV
            go_simp
          intro hC3 hS3
          clear hC2 hS2
          try simp only [Go.Act.put, List.setIfInBounds_toArray, List.set_cons_zero, List.set_cons_succ]
          refine wpAnyS_take (i := 3) (oi := ?oi4) (v := .func (.func 90) #[] #[]) ?hi4 (by kernel_rfl) (by kernel_rfl) (by kernel_rfl) (lateK_iff (by rfl)) ?hq4 ?hy4 hC3 hS3 ?rest4
          case hi4 => simp only [List.getElem?_toArray, List.getElem?_cons_succ, List.getElem?_cons_zero, Option.some.injEq]; rfl
          case hq4 => exact fun _ _ _ h => h
          case hy4 =>
            refine Or.inl ⟨by kernel_rfl, fun V hV => ?_⟩
            clear hV
            go_simp
          intro hC4 hS4
          clear hC3 hS3
          try simp only [Go.Act.put, List.setIfInBounds_toArray, List.set_cons_zero, List.set_cons_succ]
          refine wpAnyS_take (i := 4) (oi := ?oi5) (v := .slice (some ⟨g, 0, none⟩) M.length cap) ?hi5 (by kernel_rfl) (by kernel_rfl) (by kernel_rfl) (lateK_iff (by rfl)) ?hq5 ?hy5 hC4 hS4 ?rest5
          case hi5 => simp only [List.getElem?_toArray, List.getElem?_cons_succ, List.getElem?_cons_zero, Option.some.injEq]; rfl
          case hq5 => exact fun _ _ _ h => h
          case hy5 =>
            refine Or.inl ⟨by kernel_rfl, fun V hV => ?_⟩
            clear hV
            go_simp
          intro hC5 hS5
          clear hC4 hS4
          try simp only [Go.Act.put, List.setIfInBounds_toArray, List.set_cons_zero, List.set_cons_succ]
          refine wpAnyS_take (i := 5) (oi := ?oi6) (v := .int .i64 (k : Int)) ?hi6 (by kernel_rfl) (by kernel_rfl) (by kernel_rfl) (lateK_iff (by rfl)) ?hq6 ?hy6 hC5 hS5 ?rest6
          case hi6 => simp only [List.getElem?_toArray, List.getElem?_cons_succ, List.getElem?_cons_zero, Option.some.injEq]; rfl
          case hq6 => exact fun _ _ _ h => h
          case hy6 =>
            refine Or.inl ⟨by kernel_rfl, fun V hV => ?_⟩
            clear hV
            go_simp
          intro hC6 hS6
          clear hC5 hS5
          try simp only [Go.Act.put, List.setIfInBounds_toArray, List.set_cons_zero, List.set_cons_succ]
          refine wpAnyS_take (i := 6) (oi := ?oi7) (v := .pointer (some ⟨g, k * 7, none⟩)) ?hi7 (by kernel_rfl) (by kernel_rfl) (by kernel_rfl) (lateK_iff (by rfl)) ?hq7 ?hy7 hC6 hS6 ?rest7
          case hi7 => simp only [List.getElem?_toArray, List.getElem?_cons_succ, List.getElem?_cons_zero, Option.some.injEq]; rfl
          case hq7 => exact fun _ _ _ h => h
          case hy7 =>
            refine Or.inl ⟨by kernel_rfl, fun V hV => ?_⟩
            clear hV
            go_simp
          intro hC7 hS7
          clear hC6 hS6
          try simp only [Go.Act.put, List.setIfInBounds_toArray, List.set_cons_zero, List.set_cons_succ]
          refine wpAnyS_take (i := 7) (oi := ?oi8) (v := .agg #[.int .i64 x.t, .int .i64 x.x, .int .i64 x.y, .int .i64 x.z, .int .i64 x.p, .int .i64 x.q, .int .i64 x.s]) ?hi8 (by kernel_rfl) (by kernel_rfl) (by kernel_rfl) (lateK_iff (by rfl)) ?hq8 ?hy8 hC7 hS7 ?rest8
          case hi8 => simp only [List.getElem?_toArray, List.getElem?_cons_succ, List.getElem?_cons_zero, Option.some.injEq]; rfl
          case hq8 => exact fun _ _ _ h => h
          case hy8 =>
            refine Or.inl ⟨by kernel_rfl, fun V hV => ?_⟩
            obtain ⟨z0, z1, z2, z3, z4, z5, z6, y0, y1, y2, y3, y4, y5, y6⟩ := lateK_g hV; clear hV
            go_simp
          intro hC8 hS8
          clear hC7 hS7
          try simp only [Go.Act.put, List.setIfInBounds_toArray, List.set_cons_zero, List.set_cons_succ]
          refine wpAnyS_take (i := 9) (oi := ?oi9) (v := .func (.func 90) #[] #[]) ?hi9 (by kernel_rfl) (by kernel_rfl) (by kernel_rfl) (lateK_iff (by rfl)) ?hq9 ?hy9 hC8 hS8 ?rest9
          case hi9 => simp only [List.getElem?_toArray, List.getElem?_cons_succ, List.getElem?_cons_zero, Option.some.injEq]; rfl
          case hq9 => exact fun _ _ _ h => h
          case hy9 =>
            refine Or.inl ⟨by kernel_rfl, fun V hV => ?_⟩
            clear hV
            go_simp
          intro hC9 hS9
          clear hC8 hS8
          try simp only [Go.Act.put, List.setIfInBounds_toArray, List.set_cons_zero, List.set_cons_succ]
          refine wpAnyS_take (i := 10) (oi := ?oi10) (v := .slice (some ⟨g, 0, none⟩) M.length cap) ?hi10 (by kernel_rfl) (by kernel_rfl) (by kernel_rfl) (lateK_iff (by rfl)) ?hq10 ?hy10 hC9 hS9 ?rest10
          case hi10 => simp only [List.getElem?_toArray, List.getElem?_cons_succ, List.getElem?_cons_zero, Option.some.injEq]; rfl
          case hq10 => exact fun _ _ _ h => h
          case hy10 =>
            refine Or.inl ⟨by kernel_rfl, fun V hV => ?_⟩
            clear hV
            go_simp
          intro hC10 hS10
          clear hC9 hS9
          try simp only [Go.Act.put, List.setIfInBounds_toArray, List.set_cons_zero, List.set_cons_succ]
          refine wpAnyS_take (i := 11) (oi := ?oi11) (v := .int .i64 (i : Int)) ?hi11 (by kernel_rfl) (by kernel_rfl) (by kernel_rfl) (lateK_iff (by rfl)) ?hq11 ?hy11 hC10 hS10 ?rest11
          case hi11 => simp only [List.getElem?_toArray, List.getElem?_cons_succ, List.getElem?_cons_zero, Option.some.injEq]; rfl
          case hq11 => exact fun _ _ _ h => h
          case hy11 =>
            refine Or.inl ⟨by kernel_rfl, fun V hV => ?_⟩
            clear hV
            go_simp
          intro hC11 hS11
          clear hC10 hS10
          try simp only [Go.Act.put, List.setIfInBounds_toArray, List.set_cons_zero, List.set_cons_succ]
          refine wpAnyS_take (i := 12) (oi := ?oi12) (v := .pointer (some ⟨g, i * 7, none⟩)) ?hi12 (by kernel_rfl) (by kernel_rfl) (by kernel_rfl) (lateK_iff (by rfl)) ?hq12 ?hy12 hC11 hS11 ?rest12
          case hi12 => simp only [List.getElem?_toArray, List.getElem?_cons_succ, List.getElem?_cons_zero, Option.some.injEq]; rfl
          case hq12 => exact fun _ _ _ h => h
          case hy12 =>
            refine Or.inl ⟨by kernel_rfl, fun V hV => ?_⟩
            clear hV
            go_simp
          intro hC12 hS12
          clear hC11 hS11
          try simp only [Go.Act.put, List.setIfInBounds_toArray, List.set_cons_zero, List.set_cons_succ]
          refine wpAnyS_take (i := 13) (oi := ?oi13) (v := .agg #[.int .i64 p.t, .int .i64 p.x, .int .i64 p.y, .int .i64 p.z, .int .i64 p.p, .int .i64 p.q, .int .i64 p.s]) ?hi13 (by kernel_rfl) (by kernel_rfl) (by kernel_rfl) (lateK_iff (by rfl)) ?hq13 ?hy13 hC12 hS12 ?rest13
          case hi13 => simp only [List.getElem?_toArray, List.getElem?_cons_succ, List.getElem?_cons_zero, Option.some.injEq]; rfl
          case hq13 => exact fun _ _ _ h => h
          case hy13 =>
            refine Or.inl ⟨by kernel_rfl, fun V hV => ?_⟩
            obtain ⟨z0, z1, z2, z3, z4, z5, z6, y0, y1, y2, y3, y4, y5, y6⟩ := lateK_g hV; clear hV
            go_simp
          intro hC13 hS13
          clear hC12 hS12
          try simp only [Go.Act.put, List.setIfInBounds_toArray, List.set_cons_zero, List.set_cons_succ]
          refine wpAnyS_take (i := 16) (oi := ?oi14) (v := .int .i64 gap) ?hi14 (by kernel_rfl) (by kernel_rfl) (by kernel_rfl) (lateK_iff (by rfl)) ?hq14 ?hy14 hC13 hS13 ?rest14
          case hi14 => simp only [List.getElem?_toArray, List.getElem?_cons_succ, List.getElem?_cons_zero, Option.some.injEq]; rfl
          case hq14 => exact fun _ _ _ h => h
          case hy14 =>
            refine Or.inl ⟨by kernel_rfl, fun V hV => ?_⟩
            clear hV
            go_simp
          intro hC14 hS14
          clear hC13 hS13
          try simp only [Go.Act.put, List.setIfInBounds_toArray, List.set_cons_zero, List.set_cons_succ]
          refine wpAnyS_ready (rs := [8]) (by kernel_rfl) (by simp) ?_
          refine AllReadyS.cons rfl hC14 (fun K hK => ?_) AllReadyS.nil
          go_simp
          refine (at_is x _).mono ?_
          rintro e w8 ⟨rfl, hg⟩
          replace k0 := grown_cell hg k0; replace l0 := grown_cell hg l0; replace k1 := grown_cell hg k1; replace l1 := grown_cell hg l1; replace k2 := grown_cell hg k2; replace l2 := grown_cell hg l2; replace k3 := grown_cell hg k3; replace l3 := grown_cell hg l3; replace k4 := grown_cell hg k4; replace l4 := grown_cell hg l4; replace k5 := grown_cell hg k5; replace l5 := grown_cell hg l5; replace k6 := grown_cell hg k6; replace l6 := grown_cell hg l6
          replace G1 := Lib.hid (grown_trans G1.out hg); clear hg
          refine hK.out _ _ ⟨k0, k1, k2, k3, k4, k5, k6, l0, l1, l2, l3, l4, l5, l6⟩ (fun hC15 hS15 => ?_)
          clear hK hC14 hS14 K
          try simp only [Go.Act.put, List.setIfInBounds_toArray, List.set_cons_zero, List.set_cons_succ]
          refine wpAnyS_ready (rs := [14]) (by kernel_rfl) (by simp) ?_
          refine AllReadyS.cons rfl hC15 (fun K hK => ?_) AllReadyS.nil
          go_simp
          refine (at_is p _).mono ?_
          rintro e w14 ⟨rfl, hg⟩
          replace k0 := grown_cell hg k0; replace l0 := grown_cell hg l0; replace k1 := grown_cell hg k1; replace l1 := grown_cell hg l1; replace k2 := grown_cell hg k2; replace l2 := grown_cell hg l2; replace k3 := grown_cell hg k3; replace l3 := grown_cell hg l3; replace k4 := grown_cell hg k4; replace l4 := grown_cell hg l4; replace k5 := grown_cell hg k5; replace l5 := grown_cell hg l5; replace k6 := grown_cell hg k6; replace l6 := grown_cell hg l6
          replace G1 := Lib.hid (grown_trans G1.out hg); clear hg
          refine hK.out _ _ ⟨k0, k1, k2, k3, k4, k5, k6, l0, l1, l2, l3, l4, l5, l6⟩ (fun hC16 hS16 => ?_)
          clear hK hC15 hS15 K
          try simp only [Go.Act.put, List.setIfInBounds_toArray, List.set_cons_zero, List.set_cons_succ]
          refine wpAnyS_take (i := 15) (oi := ?oi17) (v := .int .i64 (x.t - p.t)) ?hi17 (by kernel_rfl) (by kernel_rfl) (by kernel_rfl) (lateK_iff (by rfl)) ?hq17 ?hy17 hC16 hS16 ?rest17
          case hi17 => simp only [List.getElem?_toArray, List.getElem?_cons_succ, List.getElem?_cons_zero, Option.some.injEq]; rfl
          case hq17 => exact fun _ _ _ h => h
          case hy17 =>
            refine Or.inl ⟨by kernel_rfl, fun V hV => ?_⟩
            clear hV
            go_simp
          intro hC17 hS17
          clear hC16 hS16
          try simp only [Go.Act.put, List.setIfInBounds_toArray, List.set_cons_zero, List.set_cons_succ]
          refine wpAnyS_take (i := 17) (oi := ?oi18) (v := .bool (decide (x.t - p.t ≤ gap))) ?hi18 (by kernel_rfl) (by kernel_rfl) (by kernel_rfl) (lateK_iff (by rfl)) ?hq18 ?hy18 hC17 hS17 ?rest18
          case hi18 => simp only [List.getElem?_toArray, List.getElem?_cons_succ, List.getElem?_cons_zero, Option.some.injEq]; rfl
          case hq18 => exact fun _ _ _ h => h
          case hy18 =>
            refine Or.inl ⟨by kernel_rfl, fun V hV => ?_⟩
            clear hV
            go_simp
          intro hC18 hS18
          clear hC17 hS17
          try simp only [Go.Act.put, List.setIfInBounds_toArray, List.set_cons_zero, List.set_cons_succ]
          refine wpAnyS_take (i := 18) (oi := ?oi19) (v := .bool (decide (x.t - p.t ≤ gap))) ?hi19 (by kernel_rfl) (by kernel_rfl) (by kernel_rfl) (lateK_iff (by rfl)) ?hq19 ?hy19 hC18 hS18 ?rest19
          case hi19 => simp only [List.getElem?_toArray, List.getElem?_cons_succ, List.getElem?_cons_zero, Option.some.injEq]; rfl
          case hq19 => exact fun _ _ _ h => h
          case hy19 =>
            refine Or.inl ⟨by kernel_rfl, fun V hV => ?_⟩
            clear hV
            go_simp
          intro hC19 hS19
          clear hC18 hS18
          try simp only [Go.Act.put, List.setIfInBounds_toArray, List.set_cons_zero, List.set_cons_succ]
          refine wpAnyS_done (by kernel_rfl) ?_ _
          clear hC19 hS19
          have HR1 : Hid (World.ownsRow w14 base 28 7 (.slice (some ⟨g, 0, none⟩) M.length cap) M.length (smpRw (fiA 4 gap A M k))) := hR.out.kept G1.out (by cases (Value.slice (some ⟨g, 0, none⟩) M.length cap).ownBlock <;> simp)
          have HG1 : Hid (w.grownBy w14 (Value.slice (some ⟨g, 0, none⟩) M.length cap).ownBlock) := grown_row4 hGr.out G1.out
          have HD : Hid ((x.t - p.t ≤ gap) ↔ ((smpD A k).t - (smpD A i).t ≤ gap)) := by show _ ↔ _; rw [xt.out, pt.out]
          have HF1 : Hid (fiA 4 gap A M (k + 1) = if (smpD A k).t - (smpD A i).t ≤ gap then brA 4 A (fiA 4 gap A M k) i k (k - i - 1) else fiA 4 gap A M k) := by
            show _ = _
            rw [HZ.out.2, HKN.out, Int.toNat_natCast]
            by_cases q : (smpD A k).t - (smpD A i).t ≤ gap
            · rw [if_pos ⟨by omega, q⟩, if_pos q]
            · rw [if_neg (fun h => q h.2), if_neg q]
          clear hR hGr G1 k0 k1 k2 k3 k4 k5 k6 l0 l1 l2 l3 l4 l5 l6
          by_cases hgp : x.t - p.t ≤ gap
          · have hd3 : decide (x.t - p.t ≤ gap) = true := by simpa using hgp
            have hf := HF1.out
            rw [if_pos (HD.out.1 hgp)] at hf
            have HF := Lib.hid hf
            have hcap : M.length ≤ cap := by
              rcases HR1.out.2 with ⟨hx, _⟩ | ⟨g', c', cur, hx, _, _, hle, _⟩
              · cases hx
              · injection hx with _ _ h3; omega
            have KB : Hid (∀ V : World, World.ownsRow V base 28 7 (.slice (some ⟨g, 0, none⟩) M.length cap) M.length (smpRw (fiA 4 gap A M k)) → Calls Try.prog 144 #[.slice (some ⟨g, i * 7, none⟩) (k + 1 - i) (cap - i), .func (.func 90) #[] #[], .func (.func 92) #[] #[]] V fun e w' => e = .returned (.tuple #[]) ∧ Hid (World.ownsRow w' base 28 7 (.slice (some ⟨g, 0, none⟩) M.length cap) M.length (smpRw (brA 4 A (fiA 4 gap A M k) i k (k - i - 1)))) ∧ V.grownBy w' (some g)) := fun V hV => by
              have e2 : k + 1 - i - 2 = k - i - 1 := by omega
              have hV2 : World.ownsRow V base 28 7 (.slice (some ⟨g, 0, none⟩) (fiA 4 gap A M k).length cap) (fiA 4 gap A M k).length (smpRw (fiA 4 gap A M k)) := by rw [hfk.out]; exact hV
              have q := brg4_is base g cap (cap - i) A (fiA 4 gap A M k) HS i k (k + 1 - i) HIK.out (by have := hml.out; have := HLT.out; omega) (by have := HIK.out; omega) HAG gi.out (by have := HNG.out; rw [xf.out] at this; exact this) V (Lib.hid hV2)
              rw [e2, hfk.out] at q
              exact q
            have s1 : IntKind.i64.wrap ((k : Int) + 1) = (k : Int) + 1 := IntWalk.i64_in _ (by omega)
            have hci : ¬ cap = i := by have := HIK.out; have := HLT.out; omega
            have t1 : (i : Int) ≤ (k : Int) + 1 := by have := HIK.out; omega
            have t2 : (k : Int) + 1 ≤ (cap : Int) := by have := HLT.out; omega
            have t3 : i ≤ k + 1 := by omega
            have t4 : k + 1 ≤ cap := by omega
            simp only [hd3]
            have RK := Lib.hid rk
            clear rk hgp hf HD HF1
            go_wp2_with fail
            refine (KB.out _ HR1.out).mono ?_; rintro e w20 ⟨rfl, hrow, hg⟩
            have HG3 : Hid (w.grownBy w20 (Value.slice (some ⟨g, 0, none⟩) M.length cap).ownBlock) := grown_rr4 HG1.out hg
            have HR3 : Hid (World.ownsRow w20 base 28 7 (.slice (some ⟨g, 0, none⟩) M.length cap) M.length (smpRw (fiA 4 gap A M (k + 1)))) := by show World.ownsRow _ _ _ _ _ _ _; rw [HF.out]; exact hrow.out
            have rk := RK.out
            clear hrow hg s1
            go_wp2_with fail
            go_roundw
            case rel => exact ⟨k + 1, by rw [HZ.out.1], by go_num, HLT.out, HR3, HG3⟩
            case measure => have := HLT.out; simp [intOf]; omega
          · have hd3 : decide (x.t - p.t ≤ gap) = false := by simpa using hgp
            have hf := HF1.out
            rw [if_neg (fun h => hgp (HD.out.2 h))] at hf
            have HF := Lib.hid hf
            simp only [hd3]
            clear hgp hf HD HF1
            go_wp2_with fail
            go_roundw
            case rel => exact ⟨k + 1, by rw [HZ.out.1], by go_num, HLT.out, by show World.ownsRow _ _ _ _ _ _ _; rw [HF.out]; exact HR1.out, HG1⟩
            case measure => have := HLT.out; simp [intOf]; omega
    · obtain rfl : k = M.length := by omega
      go_wp2_with fail
      refine bodyPost_end (results_none rfl _ _ _) rfl ?_
      refine ⟨rfl, ?_, hGr.out⟩
      rw [← hml.out]; exact hR
end Go.Proofs.Ytgkhhfojioepgaa
